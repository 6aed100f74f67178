/- RngZH, RngZI, RngZJ, RngZK, RngZL, RngZM. -/
import Derived.Test.YtgkhldbnljdeiaaPutRules
import Derived.Test.YtgkhldbnljdeiaaQRngZBToRngZG
import Derived.Test.YtgkhldbnljdeiaaQRngZToLowMath
import Derived.Test.YtgkhldbnljdeiaaQGlueAToRngN
set_option maxRecDepth 100000
set_option maxHeartbeats 4000000
set_option linter.unusedSimpArgs false
set_option linter.unusedVariables false
namespace Go.Proofs.Ytgkhldbnljdeiaa
open Go.RowKit RangesMath Go.MapKept
theorem psmall_spec : SmlSpec 23 := by
 intro a b ha hb w
 refine Lib.hid ?_
 obtain ⟨a1, a2⟩ := ha
 obtain ⟨b1, b2⟩ := hb
 have Q := are1_any 1 a b
 unfold toSmallS
 by_cases h : checkErr 1 a b = 0
 · rw [if_pos h]
   rw [show okB 1 a b = true by simp [okB, h]] at Q
   have hab : a ≤ b := (check_ok64 h).le
   have N1 : NumTo 43 #[.int .i64 a] (a / 18446744073709551616) (a % 18446744073709551616) := fun w => Lib.hid (pnumber_of a w a1 a2)
   have N2 : NumTo 43 #[.int .i64 b] (b / 18446744073709551616) (b % 18446744073709551616) := fun w => Lib.hid (pnumber_of b w b1 b2)
   have A := arnd_any a b
   rw [show min a b = a by omega, show max a b = b by omega] at A
   have T : IntoTo 2 (a / 18446744073709551616) (a % 18446744073709551616) (b / 18446744073709551616) (b % 18446744073709551616) (fin a b 2).1 (fin a b 2).2 := fun w => Lib.hid (pinto 2 a b (.inr ⟨rfl, a1, a2, b1, b2⟩) w)
   have R := psmall_ok a b _ _ _ _ _ _ _ _ _ _ w Q N1 N2 T A
   have e : fin a b 2 = broughtS a b false 2 := (broughtS_fin a b 2 false (by rw [out64_no a1 a2, out64_no b1 b2]; rfl)).symm
   rw [e] at R
   exact R
 · rw [if_neg h]
   rw [show okB 1 a b = false by simp [okB, h]] at Q
   exact psmall_bad a b w Q
theorem zero_un (w : World) : (zeroValue 62).run Try.prog w = .ok .nilFunc w := by kernel_rfl
theorem ent_u1 : Enters 50 := fun _ _ => by kernel_rfl
theorem ent_u2 : Enters 51 := fun _ _ => by kernel_rfl
theorem find_un (kb ab : Nat) (op : Int) (h1 : ¬ op = 1) (h3 : ¬ op = 3) : Instr.findNow (.int .i64) (.int .i64 op) (unEs kb ab).toList 0 = some none := by
 have e1 : (op == 1) = false := by simpa using h1
 have e3 : (op == 3) = false := by simpa using h3
 simp only [unEs, Instr.findNow, Instr.sameNow, if_true]
 rw [e1, e3]
theorem find_un3 (kb ab : Nat) (op : Int) (h2 : ¬ op = 2) : Instr.findNow (.int .i64) (.int .i64 op) (unEs3 kb ab).toList 0 = some none := by
 have e2 : (op == 2) = false := by simpa using h2
 simp only [unEs3, Instr.findNow, Instr.sameNow, if_true]
 rw [e2]
theorem full_hid (k : Int) : ∀ w, Hid (Calls Try.prog 11 #[.int .i64 k] w fun e w' => e = .returned (.tuple #[.agg #[.int .i64 (fullLow k), .int .i64 (fullHigh k)], .int .i64 (fullErr k)]) ∧ Below w.heap.size w w') := fun w => Lib.hid (pfull_any k w)
theorem una_map (k : Int) (hk : k = 1 ∨ k = 2) (w : World) : Calls Try.prog 33 #[.int .i64 k] w (UnaMap k (fullLow k) (fullHigh k) unEs 2 w) := by
 rcases hk with rfl | rfl
 · exact punaries_1 _ _ _ w (full_hid 1)
 · exact punaries_2 _ _ _ w (full_hid 2)
theorem un_no (op k : Int) (h : fits1 op k = false) (w : World) : Calls Try.prog 33 #[.int .i64 k] w (UnFindNo op w) := by
 simp only [fits1, decide_eq_false_iff_not] at h
 rcases kind_cases k with rfl | rfl | rfl | ⟨k1, k2, k3⟩
 · refine (una_map 1 (.inl rfl) w).mono ?_
   rintro e w' ⟨b, ab, rfl, hb, _, _, _, _, _, hB⟩
   exact ⟨_, rfl, hB, run_look_none Try.underlying64 Try.underlying3 hb (find_un _ _ op (by omega) (by omega)) (zero_un w') true⟩
 · refine (una_map 2 (.inr rfl) w).mono ?_
   rintro e w' ⟨b, ab, rfl, hb, _, _, _, _, _, hB⟩
   exact ⟨_, rfl, hB, run_look_none Try.underlying64 Try.underlying3 hb (find_un _ _ op (by omega) (by omega)) (zero_un w') true⟩
 · refine (punaries_3 _ _ _ w (full_hid 3)).mono ?_
   rintro e w' ⟨b, ab, rfl, hb, _, _, _, _, _, hB⟩
   exact ⟨_, rfl, hB, run_look_none Try.underlying64 Try.underlying3 hb (find_un3 _ _ op (by omega)) (zero_un w') true⟩
 · refine (punaries_no k _ _ _ w k1 k2 k3 (full_hid k)).mono ?_
   rintro e w' ⟨rfl, hB⟩
   exact ⟨_, rfl, hB, run_look_nil Try.underlying64 Try.underlying3 (zero_un w') true⟩
/-- The sum of the ends of a kind's range: to turn a value round is to take it from that. -/
def endsS (k : Int) : Int := fullLow k + fullHigh k
theorem un_turn (op k a b : Int) (h : k = 1 ∧ op = 3 ∨ k = 2 ∧ op = 3 ∨ k = 3 ∧ op = 2) (hc : checkErr k a b = 0) (w : World) : Calls Try.prog 33 #[.int .i64 k] w (UnFind op a b (endsS k - b) (endsS k - a) w) := by
 have o := check_parts hc
 have key : ∀ (w' : World) (ab : Nat), ab < w'.heap.size → w'.cell? ⟨ab, 0, none⟩ = some (.int .i64 (fullLow k)) → w'.cell? ⟨ab, 1, none⟩ = some (.int .i64 (fullHigh k)) → Turns 50 #[.pointer (some ⟨ab, 0, none⟩)] a b (endsS k - b) (endsS k - a) w' := by
   intro w' ab hz c0 c1 w2 h2
   have d0 := (h2.cell (p := ⟨ab, 0, none⟩) hz).trans c0
   have d1 := (h2.cell (p := ⟨ab, 1, none⟩) hz).trans c1
   have hk : endsS k = -1 ∧ k = 1 ∨ endsS k = 255 ∧ k = 2 ∨ endsS k = 1 ∧ k = 3 := by
     rcases h with ⟨rfl, _⟩ | ⟨rfl, _⟩ | ⟨rfl, _⟩ <;> simp [endsS, fullLow, fullHigh]
   have oo := check_ok64 hc
   have o1 := oo.le
   have o2 := oo.lo
   have o3 := oo.hi
   have lo : (k = 2 ∨ k = 3) → 0 ≤ a := by
     intro hk'
     have := o.2.2.1
     rcases hk' with rfl | rfl <;> simpa [fullLow] using this
   exact pturned a b (fullLow k) (fullHigh k) ab w2 (Nat.lt_of_lt_of_le hz h2.size) d0 d1 (by unfold endsS at hk; omega) (by unfold endsS at hk; omega) (by unfold endsS at hk; omega) (by unfold endsS at hk; omega) (by unfold endsS at hk; omega) (by unfold endsS at hk; omega)
 rcases h with ⟨rfl, rfl⟩ | ⟨rfl, rfl⟩ | ⟨rfl, rfl⟩
 · refine (una_map 1 (.inl rfl) w).mono ?_
   rintro e w' ⟨b', ab, rfl, hb, _, _, c0, c1, hz, hB⟩
   exact ⟨_, _, _, rfl, hB, run_look (i := 1) Try.underlying64 Try.underlying3 hb rfl true, ent_u1, key w' ab hz c0 c1⟩
 · refine (una_map 2 (.inr rfl) w).mono ?_
   rintro e w' ⟨b', ab, rfl, hb, _, _, c0, c1, hz, hB⟩
   exact ⟨_, _, _, rfl, hB, run_look (i := 1) Try.underlying64 Try.underlying3 hb rfl true, ent_u1, key w' ab hz c0 c1⟩
 · refine (punaries_3 _ _ _ w (full_hid 3)).mono ?_
   rintro e w' ⟨b', ab, rfl, hb, _, _, c0, c1, hz, hB⟩
   exact ⟨_, _, _, rfl, hB, run_look (i := 0) Try.underlying64 Try.underlying3 hb rfl true, ent_u1, key w' ab hz c0 c1⟩
theorem un_neg (k a b : Int) (hk : k = 1 ∨ k = 2) (hc : checkErr k a b = 0) (w : World) : Calls Try.prog 33 #[.int .i64 k] w (UnFind 1 a b (fin (-b) (-a) k).1 (fin (-b) (-a) k).2 w) := by
 have oo := check_ok64 hc
 have o1 := oo.le
 have o2 := oo.lo
 have o3 := oo.hi
 have o := check_parts hc
 have lo : k = 2 → 0 ≤ a ∧ b ≤ 255 := by
   rintro rfl
   have h1 := o.2.2.1
   have h2 := o.2.2.2
   exact ⟨by simpa [fullLow] using h1, by simpa [fullHigh] using h2⟩
 refine (una_map k hk w).mono ?_
 rintro e w' ⟨b', ab, rfl, hb, c0, hz, _, _, _, hB⟩
 refine ⟨_, _, _, rfl, hB, run_look (i := 0) Try.underlying64 Try.underlying3 hb rfl true, ent_u2, ?_⟩
 intro w2 h2
 have N1 : NumTo 52 #[.int .i64 0, .int .i64 a] ((0 - a) / 18446744073709551616) ((0 - a) % 18446744073709551616) := fun w => Lib.hid (pdifference 0 a w (by omega) (by omega) (by omega) (by omega))
 have N2 : NumTo 52 #[.int .i64 0, .int .i64 b] ((0 - b) / 18446744073709551616) ((0 - b) % 18446744073709551616) := fun w => Lib.hid (pdifference 0 b w (by omega) (by omega) (by omega) (by omega))
 have A := arnd_any (0 - a) (0 - b)
 rw [show min (0 - a) (0 - b) = -b by omega, show max (0 - a) (0 - b) = -a by omega] at A
 have T : IntoTo k (-b / 18446744073709551616) (-b % 18446744073709551616) (-a / 18446744073709551616) (-a % 18446744073709551616) (fin (-b) (-a) k).1 (fin (-b) (-a) k).2 := fun w => Lib.hid (pinto k (-b) (-a) (by rcases hk with h | h; exact .inl h; have := lo h; exact .inr ⟨h, by omega, by omega, by omega, by omega⟩) w)
 exact pnegative k a b _ _ _ _ _ _ _ _ _ _ w.heap.size w2 (Nat.lt_of_lt_of_le hz h2.size) ((h2.cell (p := ⟨w.heap.size, 0, none⟩) hz).trans c0) N1 N2 T A
theorem un_some (op k : Int) (h : (op = 1 ∨ op = 3) ∧ (k = 1 ∨ k = 2) ∨ op = 2 ∧ k = 3) (w : World) : Calls Try.prog 33 #[.int .i64 k] w (UnSome op w) := by
 rcases h with ⟨ho, hk⟩ | ⟨rfl, rfl⟩
 · refine (una_map k hk w).mono ?_
   rintro e w' ⟨b', ab, rfl, hb, _, _, _, _, _, hB⟩
   rcases ho with rfl | rfl
   · exact ⟨_, _, _, rfl, hB, run_look (i := 0) Try.underlying64 Try.underlying3 hb rfl true⟩
   · exact ⟨_, _, _, rfl, hB, run_look (i := 1) Try.underlying64 Try.underlying3 hb rfl true⟩
 · refine (punaries_3 _ _ _ w (full_hid 3)).mono ?_
   rintro e w' ⟨b', ab, rfl, hb, _, _, _, _, _, hB⟩
   exact ⟨_, _, _, rfl, hB, run_look (i := 0) Try.underlying64 Try.underlying3 hb rfl true⟩
theorem neg_eq (k a b : Int) (hk : k = 1 ∨ k = 2) (o : Ok64 a b) :
   broughtS (min (min (min (wrap64 (0 - a)) (wrap64 (0 - b))) (wrap64 (0 - a))) (wrap64 (0 - b))) (max (max (max (wrap64 (0 - a)) (wrap64 (0 - b))) (wrap64 (0 - a))) (wrap64 (0 - b))) (((out64 (0 - a) || out64 (0 - b)) || out64 (0 - a)) || out64 (0 - b)) k = fin (-b) (-a) k := by
 obtain ⟨o1, o2, o3⟩ := o
 have e1 : out64 (0 - a) = RangesMath.out64 (-a) := by unfold out64 RangesMath.out64; rw [show 0 - a = -a by omega]
 have e2 : out64 (0 - b) = RangesMath.out64 (-b) := by unfold out64 RangesMath.out64; rw [show 0 - b = -b by omega]
 rw [e1, e2]
 unfold broughtS fin low8
 cases f1 : RangesMath.out64 (-a) <;> cases f2 : RangesMath.out64 (-b) <;> simp only [Bool.or_true, Bool.true_or, Bool.or_false, Bool.false_or, Bool.or_self, if_true, Bool.false_eq_true, if_false] <;> try rfl
 simp only [RangesMath.out64, decide_eq_false_iff_not] at f1 f2
 rw [show wrap64 (0 - a) = -a by unfold wrap64; omega, show wrap64 (0 - b) = -b by unfold wrap64; omega]
 rw [show min (min (min (-a) (-b)) (-a)) (-b) = -b by omega, show max (max (max (-a) (-b)) (-a)) (-b) = -a by omega, low8_eq, low8_eq]
 rfl
theorem punary_spec : UnaSpec 19 := by
 intro op k a b ha hb w
 refine Lib.hid ?_
 have Q := are1_any k a b
 unfold unaryS
 cases hf : fits1 op k with
 | false =>
   rw [if_neg (by simp)]
   exact punary_no op k a b w (fun w => Lib.hid (un_no op k hf w))
 | true =>
   have hf' := hf
   simp only [fits1, decide_eq_true_eq] at hf'
   by_cases hc : checkErr k a b = 0
   · rw [if_pos ⟨rfl, hc⟩]
     rw [show okB k a b = true by simp [okB, hc]] at Q
     by_cases h1 : op = 1
     · subst h1
       have hk : k = 1 ∨ k = 2 := by omega
       have R := punary_ok 1 k a b _ _ w (fun w => Lib.hid (un_neg k a b hk hc w)) Q
       rw [if_pos rfl]
       rw [← neg_eq k a b hk (check_ok64 hc)] at R
       exact R
     · rw [if_neg h1]
       have R := punary_ok op k a b _ _ w (fun w => Lib.hid (un_turn op k a b (by omega) hc w)) Q
       by_cases h2 : op = 2
       · rw [if_pos h2]
         obtain rfl : k = 3 := by omega
         exact R
       · rw [if_neg h2]
         by_cases h3 : k = 2
         · subst h3
           rw [if_pos rfl]
           exact R
         · rw [if_neg h3]
           obtain rfl : k = 1 := by omega
           exact R
   · rw [if_neg (by simp [hc])]
     rw [show okB k a b = false by simp [okB, hc]] at Q
     exact punary_bad op k a b w (fun w => Lib.hid (un_some op k hf' w)) Q
end Go.Proofs.Ytgkhldbnljdeiaa
namespace Go.Proofs.Ytgkhldbnljdeiaa
open Go.RowKit RangesMath
attribute [local go_sem] World.setCell_self
/-- A map of operators answers op by some function. -/
def FindSome (op : Int) (w : World) (e : Ending) (w' : World) : Prop := ∃ m g cap, e = .returned m ∧ Below w.heap.size w w' ∧ (Instr.lookup 100 m (.int .i64 op) true).run Try.prog w' = .ok (.tuple #[.func (.func g) #[] cap, .bool true]) w'
def BofSome (w : World) (e : Ending) (w' : World) : Prop := ∃ g cap, e = .returned (.tuple #[.func (.func g) #[] cap, .bool true]) ∧ Below w.heap.size w w'
theorem pbof_arith_some_1 (op : Int) (w : World) (C : ∀ w, Hid (Calls Try.prog 45 #[.int .i64 1] w (CompOut [(op, .nilFunc)] w))) (N : ∀ w, Hid (Calls Try.prog 59 #[.int .i64 1] w (FindNo op w))) (Y : ∀ w, Hid (Calls Try.prog 60 #[.int .i64 1] w (FindSome op w))) :
   Calls Try.prog 37 #[.int .i64 op, .int .i64 1] w (BofSome w) := by
 have q0 := run_neq_nil
 go_enter Try.func37, Try.ntmps37
 go_wp2_with fail
 refine (C _).out.mono ?_
 rintro e w1 ⟨m, rfl, hb1, hM⟩
 have L := hM _ (List.mem_singleton.2 rfl) w1 (Below.refl _ _)
 dsimp only at L
 clear hM
 go_wp2_with fail
 clear L
 refine (N _).out.mono ?_
 rintro e w2 ⟨m2, rfl, hb2, L2⟩
 go_wp2_with fail
 clear L2
 refine (Y _).out.mono ?_
 rintro e w3 ⟨m3, g, cap, rfl, hb3, L3⟩
 go_wp2
 go_ret2
 exact ⟨g, cap, rfl, (hb1.trans (hb2.mono hb1.size)).trans (hb3.mono (Nat.le_trans hb1.size hb2.size))⟩
theorem pbof_bits_some_1 (op : Int) (w : World) (C : ∀ w, Hid (Calls Try.prog 45 #[.int .i64 1] w (CompOut [(op, .nilFunc)] w))) (Y : ∀ w, Hid (Calls Try.prog 59 #[.int .i64 1] w (FindSome op w))) :
   Calls Try.prog 37 #[.int .i64 op, .int .i64 1] w (BofSome w) := by
 have q0 := run_neq_nil
 go_enter Try.func37, Try.ntmps37
 go_wp2_with fail
 refine (C _).out.mono ?_
 rintro e w1 ⟨m, rfl, hb1, hM⟩
 have L := hM _ (List.mem_singleton.2 rfl) w1 (Below.refl _ _)
 dsimp only at L
 clear hM
 go_wp2_with fail
 clear L
 refine (Y _).out.mono ?_
 rintro e w3 ⟨m3, g, cap, rfl, hb3, L3⟩
 go_wp2
 go_ret2
 exact ⟨g, cap, rfl, hb1.trans (hb3.mono hb1.size)⟩
theorem pbof_arith_some_2 (op : Int) (w : World) (C : ∀ w, Hid (Calls Try.prog 45 #[.int .i64 2] w (CompOut [(op, .nilFunc)] w))) (N : ∀ w, Hid (Calls Try.prog 59 #[.int .i64 2] w (FindNo op w))) (Y : ∀ w, Hid (Calls Try.prog 60 #[.int .i64 2] w (FindSome op w))) :
   Calls Try.prog 37 #[.int .i64 op, .int .i64 2] w (BofSome w) := by
 have q0 := run_neq_nil
 go_enter Try.func37, Try.ntmps37
 go_wp2_with fail
 refine (C _).out.mono ?_
 rintro e w1 ⟨m, rfl, hb1, hM⟩
 have L := hM _ (List.mem_singleton.2 rfl) w1 (Below.refl _ _)
 dsimp only at L
 clear hM
 go_wp2_with fail
 clear L
 refine (N _).out.mono ?_
 rintro e w2 ⟨m2, rfl, hb2, L2⟩
 go_wp2_with fail
 clear L2
 refine (Y _).out.mono ?_
 rintro e w3 ⟨m3, g, cap, rfl, hb3, L3⟩
 go_wp2
 go_ret2
 exact ⟨g, cap, rfl, (hb1.trans (hb2.mono hb1.size)).trans (hb3.mono (Nat.le_trans hb1.size hb2.size))⟩
theorem pbof_bits_some_2 (op : Int) (w : World) (C : ∀ w, Hid (Calls Try.prog 45 #[.int .i64 2] w (CompOut [(op, .nilFunc)] w))) (Y : ∀ w, Hid (Calls Try.prog 59 #[.int .i64 2] w (FindSome op w))) :
   Calls Try.prog 37 #[.int .i64 op, .int .i64 2] w (BofSome w) := by
 have q0 := run_neq_nil
 go_enter Try.func37, Try.ntmps37
 go_wp2_with fail
 refine (C _).out.mono ?_
 rintro e w1 ⟨m, rfl, hb1, hM⟩
 have L := hM _ (List.mem_singleton.2 rfl) w1 (Below.refl _ _)
 dsimp only at L
 clear hM
 go_wp2_with fail
 clear L
 refine (Y _).out.mono ?_
 rintro e w3 ⟨m3, g, cap, rfl, hb3, L3⟩
 go_wp2
 go_ret2
 exact ⟨g, cap, rfl, hb1.trans (hb3.mono hb1.size)⟩
theorem pbof_con_some (op : Int) (w : World) (C : ∀ w, Hid (Calls Try.prog 45 #[.int .i64 3] w (CompOut [(op, .nilFunc)] w))) (Y : ∀ w, Hid (Calls Try.prog 61 #[] w (FindSome op w))) :
   Calls Try.prog 37 #[.int .i64 op, .int .i64 3] w (BofSome w) := by
 have q0 := run_neq_nil
 go_enter Try.func37, Try.ntmps37
 go_wp2_with fail
 refine (C _).out.mono ?_
 rintro e w1 ⟨m, rfl, hb1, hM⟩
 have L := hM _ (List.mem_singleton.2 rfl) w1 (Below.refl _ _)
 dsimp only at L
 clear hM
 go_wp2_with fail
 clear L
 refine (Y _).out.mono ?_
 rintro e w3 ⟨m3, g, cap, rfl, hb3, L3⟩
 go_wp2
 go_ret2
 exact ⟨g, cap, rfl, hb1.trans (hb3.mono hb1.size)⟩
theorem pbinary_unfit (op k a b c d : Int) (w : World) (B : ∀ w, Hid (Calls Try.prog 37 #[.int .i64 op, .int .i64 k] w (BofSome w))) (A : Are2 k a b c d false) :
   Calls Try.prog 21 #[.int .i64 op, .int .i64 k, .agg #[.int .i64 a, .int .i64 b], .agg #[.int .i64 c, .int .i64 d]] w fun e w' => e = .returned (.tuple #[.agg #[.int .i64 0, .int .i64 0, .bool false, .bool false, .bool false], .int .i64 2]) ∧ Below w.heap.size w w' := by
 go_enter Try.func21, Try.ntmps21
 go_wp2_with fail
 have A := Lib.hid A
 have KI : Keeps (w.heap.size) [(w.heap.size, 0, .int .i64 a), (w.heap.size, 1, .int .i64 b), (w.heap.size + 1, 0, .int .i64 c), (w.heap.size + 1, 1, .int .i64 d)] [(w.heap.size + 1 + 1, 0), (w.heap.size + 1 + 1, 1), (w.heap.size + 1 + 1, 2), (w.heap.size + 1 + 1, 3), (w.heap.size + 1 + 1, 4)] w (((w.alloc (.cells #[.int .i64 a, .int .i64 b] 23)).alloc (.cells #[.int .i64 c, .int .i64 d] 23)).alloc (.cells #[.int .i64 0, .int .i64 0, .bool false, .bool false, .bool false] 37)) := by
   refine ⟨?_, ?_, ?_, ?_, by simp; try omega, (((Below.refl _ _).alloc (Nat.le_refl _) _).alloc (by simp) _).alloc (by simp; omega) _⟩
   · simp only [fm, nm, false_imp_iff, implies_true, and_true]
     exact ⟨by go_simp, by go_simp, by go_simp, by go_simp⟩
   · simp only [fm, nm, false_imp_iff, implies_true, and_true]
     exact ⟨valAt_some (by go_simp), valAt_some (by go_simp), valAt_some (by go_simp), valAt_some (by go_simp), valAt_some (by go_simp)⟩
   · simp only [fm, nm, false_imp_iff, implies_true, and_true]
     exact ⟨by go_simp, by go_simp, by go_simp, by go_simp, by go_simp⟩
   · simp only [fm, nm, false_imp_iff, implies_true, and_true]
     exact ⟨by simp; try omega, by simp; try omega, by simp; try omega, by simp; try omega, by simp; try omega⟩
 have KI := Lib.hid KI
 generalize (((w.alloc (.cells #[.int .i64 a, .int .i64 b] 23)).alloc (.cells #[.int .i64 c, .int .i64 d] 23)).alloc (.cells #[.int .i64 0, .int .i64 0, .bool false, .bool false, .bool false] 37)) = W at *
 refine (B _).out.mono ?_
 rintro e w1 ⟨g, cap, rfl, hb⟩
 have K1 := Lib.hid (KI.out.later hb)
 clear hb KI
 have k0 : w1.cell? ⟨w.heap.size, 0, none⟩ = some (.int .i64 a) := (K1.out).fixed (w.heap.size, 0, .int .i64 a) (by simp)
 have k1 : w1.cell? ⟨w.heap.size, 1, none⟩ = some (.int .i64 b) := (K1.out).fixed (w.heap.size, 1, .int .i64 b) (by simp)
 have k2 : w1.cell? ⟨w.heap.size + 1, 0, none⟩ = some (.int .i64 c) := (K1.out).fixed (w.heap.size + 1, 0, .int .i64 c) (by simp)
 have k3 : w1.cell? ⟨w.heap.size + 1, 1, none⟩ = some (.int .i64 d) := (K1.out).fixed (w.heap.size + 1, 1, .int .i64 d) (by simp)
 have v0 : w1.cell? ⟨w.heap.size + 1 + 1, 0, none⟩ = some (valAt w1 ⟨w.heap.size + 1 + 1, 0, none⟩) := (K1.out).there (w.heap.size + 1 + 1, 0) (by simp)
 have f0 : w1.frozen? ⟨w.heap.size + 1 + 1, 0, none⟩ = false := (K1.out).froz (w.heap.size + 1 + 1, 0) (by simp)
 have v1 : w1.cell? ⟨w.heap.size + 1 + 1, 1, none⟩ = some (valAt w1 ⟨w.heap.size + 1 + 1, 1, none⟩) := (K1.out).there (w.heap.size + 1 + 1, 1) (by simp)
 have f1 : w1.frozen? ⟨w.heap.size + 1 + 1, 1, none⟩ = false := (K1.out).froz (w.heap.size + 1 + 1, 1) (by simp)
 have v2 : w1.cell? ⟨w.heap.size + 1 + 1, 2, none⟩ = some (valAt w1 ⟨w.heap.size + 1 + 1, 2, none⟩) := (K1.out).there (w.heap.size + 1 + 1, 2) (by simp)
 have f2 : w1.frozen? ⟨w.heap.size + 1 + 1, 2, none⟩ = false := (K1.out).froz (w.heap.size + 1 + 1, 2) (by simp)
 have v3 : w1.cell? ⟨w.heap.size + 1 + 1, 3, none⟩ = some (valAt w1 ⟨w.heap.size + 1 + 1, 3, none⟩) := (K1.out).there (w.heap.size + 1 + 1, 3) (by simp)
 have f3 : w1.frozen? ⟨w.heap.size + 1 + 1, 3, none⟩ = false := (K1.out).froz (w.heap.size + 1 + 1, 3) (by simp)
 have v4 : w1.cell? ⟨w.heap.size + 1 + 1, 4, none⟩ = some (valAt w1 ⟨w.heap.size + 1 + 1, 4, none⟩) := (K1.out).there (w.heap.size + 1 + 1, 4) (by simp)
 have f4 : w1.frozen? ⟨w.heap.size + 1 + 1, 4, none⟩ = false := (K1.out).froz (w.heap.size + 1 + 1, 4) (by simp)
 have z0 : w.heap.size + 1 + 1 < w1.heap.size := (K1.out).lt (w.heap.size + 1 + 1, 0) (by simp)
 have y0 : w.heap.size < w1.heap.size := by omega
 have y1 : w.heap.size + 1 < w1.heap.size := by omega
 go_wp2_with fail
 refine (A.out _ _ _ (by simp) (by omega) ⟨by go_simp, by go_simp⟩ ⟨by go_simp, by go_simp⟩).mono ?_
 clear y0 y1 k0 k1 k2 k3 v0 f0 v1 f1 v2 f2 v3 f3 v4 f4 z0
 rintro e w2 ⟨rfl, hb⟩
 have b2 := ((Below.refl w1.heap.size w1).alloc (Nat.le_refl _) _).trans (hb.mono (by simp))
 have K2 := Lib.hid (K1.out.later b2)
 clear hb b2 K1
 have k0 : w2.cell? ⟨w.heap.size, 0, none⟩ = some (.int .i64 a) := (K2.out).fixed (w.heap.size, 0, .int .i64 a) (by simp)
 have k1 : w2.cell? ⟨w.heap.size, 1, none⟩ = some (.int .i64 b) := (K2.out).fixed (w.heap.size, 1, .int .i64 b) (by simp)
 have k2 : w2.cell? ⟨w.heap.size + 1, 0, none⟩ = some (.int .i64 c) := (K2.out).fixed (w.heap.size + 1, 0, .int .i64 c) (by simp)
 have k3 : w2.cell? ⟨w.heap.size + 1, 1, none⟩ = some (.int .i64 d) := (K2.out).fixed (w.heap.size + 1, 1, .int .i64 d) (by simp)
 have v0 : w2.cell? ⟨w.heap.size + 1 + 1, 0, none⟩ = some (valAt w2 ⟨w.heap.size + 1 + 1, 0, none⟩) := (K2.out).there (w.heap.size + 1 + 1, 0) (by simp)
 have f0 : w2.frozen? ⟨w.heap.size + 1 + 1, 0, none⟩ = false := (K2.out).froz (w.heap.size + 1 + 1, 0) (by simp)
 have v1 : w2.cell? ⟨w.heap.size + 1 + 1, 1, none⟩ = some (valAt w2 ⟨w.heap.size + 1 + 1, 1, none⟩) := (K2.out).there (w.heap.size + 1 + 1, 1) (by simp)
 have f1 : w2.frozen? ⟨w.heap.size + 1 + 1, 1, none⟩ = false := (K2.out).froz (w.heap.size + 1 + 1, 1) (by simp)
 have v2 : w2.cell? ⟨w.heap.size + 1 + 1, 2, none⟩ = some (valAt w2 ⟨w.heap.size + 1 + 1, 2, none⟩) := (K2.out).there (w.heap.size + 1 + 1, 2) (by simp)
 have f2 : w2.frozen? ⟨w.heap.size + 1 + 1, 2, none⟩ = false := (K2.out).froz (w.heap.size + 1 + 1, 2) (by simp)
 have v3 : w2.cell? ⟨w.heap.size + 1 + 1, 3, none⟩ = some (valAt w2 ⟨w.heap.size + 1 + 1, 3, none⟩) := (K2.out).there (w.heap.size + 1 + 1, 3) (by simp)
 have f3 : w2.frozen? ⟨w.heap.size + 1 + 1, 3, none⟩ = false := (K2.out).froz (w.heap.size + 1 + 1, 3) (by simp)
 have v4 : w2.cell? ⟨w.heap.size + 1 + 1, 4, none⟩ = some (valAt w2 ⟨w.heap.size + 1 + 1, 4, none⟩) := (K2.out).there (w.heap.size + 1 + 1, 4) (by simp)
 have f4 : w2.frozen? ⟨w.heap.size + 1 + 1, 4, none⟩ = false := (K2.out).froz (w.heap.size + 1 + 1, 4) (by simp)
 have z0 : w.heap.size + 1 + 1 < w2.heap.size := (K2.out).lt (w.heap.size + 1 + 1, 0) (by simp)
 go_wp2
 have bl := K2.out.bl
 refine bodyPost_ret (v := .tuple #[.agg #[.int .i64 0, .int .i64 0, .bool false, .bool false, .bool false], .int .i64 2]) (by simp [results, Try.results21, go_sem, v0, v1, v2, v3, v4]) rfl ⟨rfl, ?_⟩
 exact ((((bl.setCell (by simp; omega) _).setCell (by simp; omega) _).setCell (by simp; omega) _).setCell (by simp; omega) _).setCell (by simp; omega) _
end Go.Proofs.Ytgkhldbnljdeiaa
namespace Go.Proofs.Ytgkhldbnljdeiaa
open Go.RowKit RangesMath Go.MapKept
/-- Binary makes the effect that binS says. -/
def BinIs (op k a b c d : Int) : Prop := ∀ w, Calls Try.prog 21 #[.int .i64 op, .int .i64 k, .agg #[.int .i64 a, .int .i64 b], .agg #[.int .i64 c, .int .i64 d]] w fun e w' => e = .returned (.tuple #[.agg #[.int .i64 (binS op k a b c d).lo, .int .i64 (binS op k a b c d).hi, .bool (binS op k a b c d).some, .bool (binS op k a b c d).trap, .bool (binS op k a b c d).undef], .int .i64 0]) ∧ Below w.heap.size w w'
theorem check_byte {k a b : Int} (hk : k = 2) (h : checkErr k a b = 0) : 0 ≤ a ∧ b ≤ 255 := by
 subst hk
 have o := check_parts h
 have h1 := o.2.2.1
 have h2 := o.2.2.2
 exact ⟨by simpa [fullLow] using h1, by simpa [fullHigh] using h2⟩
theorem okB_of {k a b : Int} (h : checkErr k a b = 0) : okB k a b = true := by simp [okB, h]
theorem bin_add (k a b c d : Int) (hk : k = 1 ∨ k = 2) (h1 : checkErr k a b = 0) (h2 : checkErr k c d = 0) : BinIs 4 k a b c d := by
 intro w
 have o1 := check_ok64 h1
 have o2 := check_ok64 h2
 have p1 := o1.le
 have p2 := o1.lo
 have p3 := o1.hi
 have q1 := o2.le
 have q2 := o2.lo
 have q3 := o2.hi
 have C := calc_ok k 99 (fun x y => x + y) [⟨a, b, c, d⟩] (a + c) (b + d) (by simp) (by simp) ent_sum (sum_fn _ (by simp; omega)) (by simp [endsTo, cornersOf, minTo]; omega) (by simp [endsTo, cornersOf, maxTo]; omega)
   (by rcases hk with h | h; exact .inl h; have := check_byte h h1; have := check_byte h h2; exact .inr ⟨h, by omega, by omega, by omega, by omega⟩)
 refine binary_arith 4 k a b c d _ _ true false false hk (by omega) (fun w => arith_eff 4 k a b c d _ _ true false false 98 3 (fun n => rfl) ent_a4 ?_ w) (okB_of h1) (okB_of h2) w
 intro kb w hkb hk
 exact parith_4 k a b c d _ _ kb w hkb hk (Lib.hid (calc1_of C))
theorem bin_sub (k a b c d : Int) (hk : k = 1 ∨ k = 2) (h1 : checkErr k a b = 0) (h2 : checkErr k c d = 0) : BinIs 5 k a b c d := by
 intro w
 have o1 := check_ok64 h1
 have o2 := check_ok64 h2
 have p1 := o1.le
 have p2 := o1.lo
 have p3 := o1.hi
 have q1 := o2.le
 have q2 := o2.lo
 have q3 := o2.hi
 have C := calc_ok k 52 (fun x y => x - y) [⟨a, b, c, d⟩] (a - d) (b - c) (by simp) (by simp) ent_difference (difference_fn _ (by simp; omega)) (by simp [endsTo, cornersOf, minTo]; omega) (by simp [endsTo, cornersOf, maxTo]; omega)
   (by rcases hk with h | h; exact .inl h; have := check_byte h h1; have := check_byte h h2; exact .inr ⟨h, by omega, by omega, by omega, by omega⟩)
 refine binary_arith 5 k a b c d _ _ true false false hk (by omega) (fun w => arith_eff 5 k a b c d _ _ true false false 100 4 (fun n => rfl) ent_a5 ?_ w) (okB_of h1) (okB_of h2) w
 intro kb w hkb hk
 exact parith_5 k a b c d _ _ kb w hkb hk (Lib.hid (calc1_of C))
theorem mul_byte {u v : Int} (h1 : 0 ≤ u) (h2 : u ≤ 255) (h3 : 0 ≤ v) (h4 : v ≤ 255) : 0 ≤ u * v ∧ u * v ≤ 65025 := by
 have e := Int.mul_nonneg h1 h3
 have f := Int.mul_le_mul h2 h4 h3 (by omega)
 omega
theorem bin_mul (k a b c d : Int) (hk : k = 1 ∨ k = 2) (h1 : checkErr k a b = 0) (h2 : checkErr k c d = 0) : BinIs 1 k a b c d := by
 intro w
 have o1 := check_ok64 h1
 have o2 := check_ok64 h2
 have p1 := o1.le
 have p2 := o1.lo
 have p3 := o1.hi
 have q1 := o2.le
 have q2 := o2.lo
 have q3 := o2.hi
 have C := calc_ok k 91 (fun x y => x * y) [⟨a, b, c, d⟩] (min4 (a * c) (a * d) (b * c) (b * d)) (max4 (a * c) (a * d) (b * c) (b * d)) (by simp) (by simp) ent_product (product_fn _ (by simp; omega)) (by simp [endsTo, cornersOf, minTo, min4]; try omega) (by simp [endsTo, cornersOf, maxTo, max4]; try omega)
   (by
     rcases hk with h | h
     · exact .inl h
     have x := check_byte h h1
     have y := check_byte h h2
     have m1 := mul_byte (u := a) (v := c) (by omega) (by omega) (by omega) (by omega)
     have m2 := mul_byte (u := a) (v := d) (by omega) (by omega) (by omega) (by omega)
     have m3 := mul_byte (u := b) (v := c) (by omega) (by omega) (by omega) (by omega)
     have m4 := mul_byte (u := b) (v := d) (by omega) (by omega) (by omega) (by omega)
     exact .inr ⟨h, by unfold min4; omega, by unfold min4; omega, by unfold max4; omega, by unfold max4; omega⟩)
 refine binary_arith 1 k a b c d _ _ true false false hk (by omega) (fun w => arith_eff 1 k a b c d _ _ true false false 89 0 (fun n => rfl) ent_a1 ?_ w) (okB_of h1) (okB_of h2) w
 intro kb w hkb hk
 exact parith_1 k a b c d _ _ kb w hkb hk (Lib.hid (calc1_of C))
end Go.Proofs.Ytgkhldbnljdeiaa
namespace Go.Proofs.Ytgkhldbnljdeiaa
open Go.RowKit RangesMath Go.MapKept
theorem divL_eq (a b c d : Int) (ha : Ok64 a b) (hc : Ok64 c d) : divL a b c d = (if c ≤ -2 then [⟨a, b, c, min d (-2)⟩] else []) ++ (if max a (-9223372036854775807) ≤ b ∧ c ≤ -1 ∧ -1 ≤ d then [⟨max a (-9223372036854775807), b, -1, -1⟩] else []) ++ (if 1 ≤ d then [⟨a, b, max c 1, d⟩] else []) := by
 have p1 := ha.le
 have p2 := ha.lo
 have p3 := ha.hi
 have q1 := hc.le
 have q2 := hc.lo
 have q3 := hc.hi
 have e1 : comS a b (-9223372036854775808) 9223372036854775807 = (a, b, true) := by
   unfold comS
   rw [if_pos (by omega), show max a (-9223372036854775808) = a by omega, show min b 9223372036854775807 = b by omega]
 have e2 : comS c d (-9223372036854775808) (-2) = if c ≤ -2 then (c, min d (-2), true) else (0, 0, false) := by
   unfold comS
   rw [show max c (-9223372036854775808) = c by omega]
   by_cases h : c ≤ -2
   · rw [if_pos (by omega), if_pos h]
   · rw [if_neg (by omega), if_neg h]
 have e3 : comS a b (-9223372036854775807) 9223372036854775807 = if max a (-9223372036854775807) ≤ b then (max a (-9223372036854775807), b, true) else (0, 0, false) := by
   unfold comS
   rw [show min b 9223372036854775807 = b by omega]
 have e4 : comS c d (-1) (-1) = if c ≤ -1 ∧ -1 ≤ d then (-1, -1, true) else (0, 0, false) := by
   unfold comS
   by_cases h : c ≤ -1 ∧ -1 ≤ d
   · rw [if_pos (by omega), if_pos h, show max c (-1) = -1 by omega, show min d (-1) = -1 by omega]
   · rw [if_neg (by omega), if_neg h]
 have e5 : comS c d 1 9223372036854775807 = if 1 ≤ d then (max c 1, d, true) else (0, 0, false) := by
   unfold comS
   rw [show min d 9223372036854775807 = d by omega]
   by_cases h : 1 ≤ d
   · rw [if_pos (by omega), if_pos h]
   · rw [if_neg (by omega), if_neg h]
 unfold divL optS
 rw [e1, e2, e3, e4, e5]
 by_cases h1 : c ≤ -2 <;> by_cases h2 : max a (-9223372036854775807) ≤ b <;> by_cases h3 : c ≤ -1 ∧ -1 ≤ d <;> by_cases h4 : 1 ≤ d <;> simp only [h1, h2, h3, h4, if_true, if_false, Bool.and_true, Bool.and_false, true_and, false_and, and_self, and_true, and_false] <;> rfl
theorem minTo_hull (ps : List Pr) (h0 : 0 < ps.length) (h3 : ps.length ≤ 3) : minTo (endsTo (fun x y => x.tdiv y) ps ps.length) (4 * ps.length - 1) = hullLo ps ∧ maxTo (endsTo (fun x y => x.tdiv y) ps ps.length) (4 * ps.length - 1) = hullHi ps := by
 match ps, h0, h3 with
 | [p], _, _ => 
   refine ⟨?_, ?_⟩
   · simp [endsTo, cornersOf, minTo, hullLo, Pr.lo, min4]; try omega
   · simp [endsTo, cornersOf, maxTo, hullHi, Pr.hi, max4]; try omega
 | [p, q], _, _ => 
   refine ⟨?_, ?_⟩
   · simp [endsTo, cornersOf, minTo, hullLo, Pr.lo, min4]; try omega
   · simp [endsTo, cornersOf, maxTo, hullHi, Pr.hi, max4]; try omega
 | [p, q, r], _, _ => 
   refine ⟨?_, ?_⟩
   · simp [endsTo, cornersOf, minTo, hullLo, Pr.lo, min4]; try omega
   · simp [endsTo, cornersOf, maxTo, hullHi, Pr.hi, max4]; try omega
 | _ :: _ :: _ :: _ :: _, _, h3 => simp at h3
theorem quo_in (u z : Int) (h1 : -9223372036854775808 ≤ u) (h2 : u ≤ 9223372036854775807) (hz : z ≠ 0) (h : -9223372036854775807 ≤ u ∨ z ≠ -1) : -9223372036854775808 ≤ u.tdiv z ∧ u.tdiv z ≤ 9223372036854775807 := by
 have e : (u.tdiv z).natAbs = u.natAbs / z.natAbs := Int.natAbs_tdiv u z
 have f := Nat.div_le_self u.natAbs z.natAbs
 by_cases hu : u = -9223372036854775808
 · subst hu
   by_cases h1' : z = 1
   · subst h1'
     rw [Int.tdiv_one]
     omega
   · have g := Nat.div_le_div_left (a := Int.natAbs (-9223372036854775808)) (show 2 ≤ z.natAbs by omega) (by omega)
     have g2 : Int.natAbs (-9223372036854775808) / 2 = 4611686018427387904 := by decide
     omega
 · omega
theorem mid_hull (a b c : Int) (hab : a ≤ b) (hc : c ≤ -2) : min (Pr.lo ⟨a, b, c, -2⟩) (Pr.lo ⟨a, b, -1, -1⟩) = Pr.lo ⟨a, b, c, -1⟩ ∧ max (Pr.hi ⟨a, b, c, -2⟩) (Pr.hi ⟨a, b, -1, -1⟩) = Pr.hi ⟨a, b, c, -1⟩ := by
 have e1 := tdiv_corners a b c (-1) a (-2) (by omega) (by omega) (by omega) (by omega) (by omega)
 have e2 := tdiv_corners a b c (-1) b (-2) (by omega) (by omega) (by omega) (by omega) (by omega)
 simp only [Pr.lo, Pr.hi, min4, max4]
 generalize a.tdiv (-2) = x1 at *
 generalize b.tdiv (-2) = x2 at *
 generalize a.tdiv c = x3 at *
 generalize b.tdiv c = x4 at *
 generalize a.tdiv (-1) = x5 at *
 generalize b.tdiv (-1) = x6 at *
 clear hab hc
 refine ⟨by omega, by omega⟩
theorem hull_eq (k a b c d : Int) (hk : k = 1 ∨ k = 2 ∧ 0 ≤ c) (ha : Ok64 a b) (hc : Ok64 c d) :
   (divL a b c d = [] ↔ pairsS k a b c d = []) ∧ hullLo (divL a b c d) = hullLo (pairsS k a b c d) ∧ hullHi (divL a b c d) = hullHi (pairsS k a b c d) := by
 rw [divL_eq a b c d ha hc]
 have p1 := ha.le
 have p2 := ha.lo
 have p3 := ha.hi
 have q1 := hc.le
 by_cases h0 : c < 0
 · have hk1 : k = 1 := by omega
   subst hk1
   by_cases hu : undefB 1 a c d = true
   · have hu' : a = -9223372036854775808 ∧ c ≤ -1 ∧ -1 ≤ d := by simp [undefB, least] at hu; omega
     have el : (if c ≤ -2 then [(⟨a, b, c, min d (-2)⟩ : Pr)] else []) ++ (if max a (-9223372036854775807) ≤ b ∧ c ≤ -1 ∧ -1 ≤ d then [⟨max a (-9223372036854775807), b, -1, -1⟩] else []) ++ (if 1 ≤ d then [⟨a, b, max c 1, d⟩] else []) = pairsS 1 a b c d := by
       unfold pairsS
       rw [if_pos h0, if_pos hu, show min d (-2) = -2 by omega, show max a (-9223372036854775807) = -9223372036854775807 by omega]
       have i1 : (c ≤ -2) = (c < -1) := by apply propext; omega
       have i2 : (-9223372036854775807 ≤ b ∧ c ≤ -1 ∧ -1 ≤ d) = (least < b) := by apply propext; simp only [least]; omega
       have i3 : (1 ≤ d) = (0 < d) := by apply propext; omega
       simp only [i1, i2, i3]
       rfl
     rw [el]
     exact ⟨Iff.rfl, rfl, rfl⟩
   · have hu' : ¬ (a = -9223372036854775808 ∧ -1 ≤ d) := by
       intro h
       apply hu
       simp [undefB, least]
       omega
     unfold pairsS
     rw [if_pos h0, if_neg hu]
     have i3 : (1 ≤ d) = (0 < d) := by apply propext; omega
     simp only [i3]
     by_cases hd : -1 ≤ d
     · rw [show min d (-1) = -1 by omega, if_pos (show max a (-9223372036854775807) ≤ b ∧ c ≤ -1 ∧ -1 ≤ d by omega), show max a (-9223372036854775807) = a by omega, show min d (-2) = -2 by omega]
       by_cases h2 : c ≤ -2
       · rw [if_pos h2]
         have M := mid_hull a b c (by omega) (by omega)
         by_cases h3 : 0 < d
         · rw [if_pos h3]
           refine ⟨by simp, ?_, ?_⟩
           · show min (Pr.lo _) (min (Pr.lo _) (Pr.lo _)) = min (Pr.lo _) (Pr.lo _)
             rw [← M.1]; omega
           · show max (Pr.hi _) (max (Pr.hi _) (Pr.hi _)) = max (Pr.hi _) (Pr.hi _)
             rw [← M.2]; omega
         · rw [if_neg h3]
           exact ⟨by simp, M.1, M.2⟩
       · rw [if_neg h2, show c = -1 by omega]
         simp
     · rw [show min d (-1) = d by omega, if_neg (show ¬ (max a (-9223372036854775807) ≤ b ∧ c ≤ -1 ∧ -1 ≤ d) by omega), show min d (-2) = d by omega, if_pos (show c ≤ -2 by omega)]
       simp
 · unfold pairsS
   rw [if_neg h0, if_neg (show ¬ c ≤ -2 by omega), if_neg (show ¬ (max a (-9223372036854775807) ≤ b ∧ c ≤ -1 ∧ -1 ≤ d) by omega)]
   have i3 : (1 ≤ d) = (0 < d) := by apply propext; omega
   simp only [i3]
   exact ⟨Iff.rfl, rfl, rfl⟩
end Go.Proofs.Ytgkhldbnljdeiaa
namespace Go.Proofs.Ytgkhldbnljdeiaa
open Go.RowKit RangesMath Go.MapKept
theorem und_eq {k a b c d : Int} (hk : k = 1 ∨ k = 2 ∧ 0 ≤ c) (ha : Ok64 a b) : undS a b c d = undefB k a c d := by
 have p1 := ha.le
 have p2 := ha.lo
 unfold undS undefB
 rcases hk with rfl | ⟨rfl, h⟩
 · rw [show decide ((-9223372036854775808 : Int) ≤ b) = true by simp; omega]
   simp [least, Bool.and_assoc]
 · rw [show decide (c ≤ -1) = false by simp; omega]
   simp
theorem kind_low {k c d : Int} (hk : k = 1 ∨ k = 2) (h : checkErr k c d = 0) : k = 1 ∨ k = 2 ∧ 0 ≤ c := by
 rcases hk with h1 | h1
 · exact .inl h1
 · exact .inr ⟨h1, (check_byte h1 h).1⟩
theorem fin_in {k l h : Int} (hk : k = 1 ∨ k = 2) (h1 : fullLow k ≤ l) (h2 : l ≤ h) (h3 : h ≤ fullHigh k) : fin l h k = (l, h) := by
 unfold fin
 rcases hk with rfl | rfl
 · simp only [fullLow, fullHigh, if_true] at h1 h3
   rw [out64_no (by omega) (by omega), out64_no (by omega) (by omega)]
   simp
 · simp [fullLow, fullHigh] at h1 h3
   rw [out64_no (by omega) (by omega), out64_no (by omega) (by omega), if_neg (by simp), if_neg (by omega), if_pos (by omega)]
   rw [show l % 256 = l by omega, show h % 256 = h by omega]
theorem len_pos {α : Type} {l : List α} (h : l ≠ []) : 0 < l.length := List.length_pos_iff.2 h
theorem divL_fn (a b c d : Int) (ha : Ok64 a b) (hc : Ok64 c d) : ∀ p ∈ divL a b c d, ∀ u, (u = p.a ∨ u = p.b) → ∀ z, (z = p.c ∨ z = p.d) → ¬ z = 0 ∧ -9223372036854775808 ≤ u.tdiv z ∧ u.tdiv z ≤ 9223372036854775807 := by
 rw [divL_eq a b c d ha hc]
 have p1 := ha.le
 have p2 := ha.lo
 have p3 := ha.hi
 have q1 := hc.le
 have q2 := hc.lo
 have q3 := hc.hi
 intro p hp u hu z hz
 have key : ¬ z = 0 ∧ (-9223372036854775808 ≤ u ∧ u ≤ 9223372036854775807) ∧ (-9223372036854775807 ≤ u ∨ z ≠ -1) := by
   rcases List.mem_append.1 hp with hp | hp
   · rcases List.mem_append.1 hp with hp | hp
     · by_cases h : c ≤ -2
       · rw [if_pos h, List.mem_singleton] at hp
         subst hp
         dsimp only at hu hz
         omega
       · rw [if_neg h] at hp; simp at hp
     · by_cases h : max a (-9223372036854775807) ≤ b ∧ c ≤ -1 ∧ -1 ≤ d
       · rw [if_pos h, List.mem_singleton] at hp
         subst hp
         dsimp only at hu hz
         omega
       · rw [if_neg h] at hp; simp at hp
   · by_cases h : 1 ≤ d
     · rw [if_pos h, List.mem_singleton] at hp
       subst hp
       dsimp only at hu hz
       omega
     · rw [if_neg h] at hp; simp at hp
 exact ⟨key.1, quo_in u z key.2.1.1 key.2.1.2 key.1 key.2.2⟩
theorem bin_div (k a b c d : Int) (hk : k = 1 ∨ k = 2) (h1 : checkErr k a b = 0) (h2 : checkErr k c d = 0) : BinIs 2 k a b c d := by
 intro w
 have o1 := check_ok64 h1
 have o2 := check_ok64 h2
 have D := pdivisible a b c d
 have H := hull_eq k a b c d (kind_low hk h2) o1 o2
 have U := und_eq (d := d) (kind_low hk h2) o1
 have c1 := check_parts h1
 have c2 := check_parts h2
 by_cases hp : pairsS k a b c d = []
 · have e : binS 2 k a b c d = ⟨0, 0, false, decide (c ≤ 0) && decide (0 ≤ d), undS a b c d⟩ := by simp [binS, hp, U]
   rw [e]
   have hD := H.1.2 hp
   rw [hD] at D
   refine binary_arith 2 k a b c d _ _ _ _ _ hk (by omega) (fun w => arith_eff 2 k a b c d _ _ _ _ _ 92 1 (fun n => rfl) ent_a2 ?_ w) (okB_of h1) (okB_of h2) w
   intro kb w hkb hk
   exact parith_2 k a b c d 0 0 false _ _ kb w hkb hk (fun w => Lib.hid (divcalc_none D w)) (pdivided a b c d 0 0 false)
 · have hD : divL a b c d ≠ [] := fun h => hp (H.1.1 h)
   have e : binS 2 k a b c d = ⟨hullLo (pairsS k a b c d), hullHi (pairsS k a b c d), true, decide (c ≤ 0) && decide (0 ≤ d), undS a b c d⟩ := by simp [binS, hp, U]
   have B := hull_in (pairsS k a b c d) (fullLow k) (fullHigh k) hp (pairs_in k a b c d hk c1.2.2.1 c1.2.1 c1.2.2.2 c2.2.2.1 c2.2.1 c2.2.2.2)
   have M := minTo_hull (divL a b c d) (len_pos hD) (divL_len a b c d)
   rw [H.2.1, H.2.2] at M
   rw [e]
   have C := calc_ok k 94 (fun x y => x.tdiv y) (divL a b c d) (hullLo (pairsS k a b c d)) (hullHi (pairsS k a b c d)) (divL_len a b c d) (len_pos hD) ent_quotient (quotient_fn _ (divL_fn a b c d o1 o2)) M.1 M.2
     (by
       rcases hk with h | h
       · exact .inl h
       · refine .inr ⟨h, ?_⟩
         subst h
         have x : (0 : Int) ≤ hullLo (pairsS 2 a b c d) := by simpa [fullLow] using B.1
         have y : hullHi (pairsS 2 a b c d) ≤ 255 := by simpa [fullHigh] using B.2.1
         have z := B.2.2
         omega)
   rw [fin_in hk B.1 B.2.2 B.2.1] at C
   refine binary_arith 2 k a b c d _ _ _ _ _ hk (by omega) (fun w => arith_eff 2 k a b c d _ _ _ _ _ 92 1 (fun n => rfl) ent_a2 ?_ w) (okB_of h1) (okB_of h2) w
   intro kb w hkb hk
   exact parith_2 k a b c d _ _ true _ _ kb w hkb hk (fun w => Lib.hid (divcalc_some D (len_pos hD) C w)) (pdivided a b c d _ _ true)
theorem bin_rem (k a b c d : Int) (hk : k = 1 ∨ k = 2) (h1 : checkErr k a b = 0) (h2 : checkErr k c d = 0) : BinIs 3 k a b c d := by
 intro w
 have o1 := check_ok64 h1
 have o2 := check_ok64 h2
 have D := pdivisible a b c d
 have H := hull_eq k a b c d (kind_low hk h2) o1 o2
 have U := und_eq (d := d) (kind_low hk h2) o1
 have p1 := o1.le
 have p2 := o1.lo
 have p3 := o1.hi
 have q1 := o2.le
 have q2 := o2.lo
 have q3 := o2.hi
 by_cases hp : pairsS k a b c d = []
 · have e : binS 3 k a b c d = ⟨0, 0, false, decide (c ≤ 0) && decide (0 ≤ d), undS a b c d⟩ := by simp [binS, hp, U]
   rw [e]
   have hD := H.1.2 hp
   rw [hD] at D
   refine binary_arith 3 k a b c d _ _ _ _ _ hk (by omega) (fun w => arith_eff3 k a b c d _ _ _ _ _ ?_ ent_a3 w) (okB_of h1) (okB_of h2) w
   intro w
   exact parith_3 a b c d 0 0 false _ _ w (prem_empty a b c d D) (pdivided a b c d 0 0 false)
 · have hD : divL a b c d ≠ [] := fun h => hp (H.1.1 h)
   have e : binS 3 k a b c d = ⟨(restS a b (mS c d) (MS c d)).1, (restS a b (mS c d) (MS c d)).2, true, decide (c ≤ 0) && decide (0 ≤ d), undS a b c d⟩ := by simp [binS, hp, U]
   have Z := psizes_any c d q2 (by omega) (by omega) q3
   have hcd : ¬ (c = 0 ∧ d = 0) := by
     rintro ⟨rfl, rfl⟩
     exact hp (by simp [pairsS])
   rw [show (if c ≤ 0 ∧ 0 ≤ d then 1 else min (c.natAbs : Int) (d.natAbs : Int)) = mS c d by
     unfold mS
     by_cases x1 : 0 < c
     · rw [if_pos x1, if_neg (by omega)]; omega
     · by_cases x2 : d < 0
       · rw [if_neg x1, if_pos x2, if_neg (by omega)]; omega
       · rw [if_neg x1, if_neg x2, if_pos (by omega)],
     show max (c.natAbs : Int) (d.natAbs : Int) = MS c d by unfold MS; omega] at Z
   rw [e]
   have R := prem_some a b c d (mS c d) (MS c d) (divL a b c d) (len_pos hD) D Z (by unfold MS; omega) (by unfold MS; omega) p2 (by omega) (by omega) p3
   refine binary_arith 3 k a b c d _ _ _ _ _ hk (by omega) (fun w => arith_eff3 k a b c d _ _ _ _ _ ?_ ent_a3 w) (okB_of h1) (okB_of h2) w
   intro w
   exact parith_3 a b c d _ _ true _ _ w R (pdivided a b c d _ _ true)
end Go.Proofs.Ytgkhldbnljdeiaa
namespace Go.Proofs.Ytgkhldbnljdeiaa
open Go.RowKit RangesMath Go.MapKept
attribute [local go_sem] World.setCell_self
theorem ponly_w (v : Int) (w : World) (SR : ∀ w, Hid (Calls Try.prog 81 #[.agg #[.int .i64 v, .int .i64 v]] w fun e w' => e = .returned (.agg #[.int .i64 v, .int .i64 v, .bool true, .bool false, .bool false]) ∧ Below w.heap.size w w')) :
   Calls Try.prog 84 #[.int .i64 v] w fun e w' => e = .returned (EffV v v true false false) ∧ Below w.heap.size w w' := by
 go_enter Try.func84, Try.ntmps84
 go_wp2_with fail
 refine (SR _).out.mono ?_
 rintro e w1 ⟨rfl, hB⟩
 have z : w.heap.size < w1.heap.size := by have := hB.size; simp at this; omega
 have r0 : w1.cell? ⟨w.heap.size, 0, none⟩ = some (.int .i64 0) := cell_later hB (by go_simp)
 have r1 : w1.cell? ⟨w.heap.size, 1, none⟩ = some (.int .i64 0) := cell_later hB (by go_simp)
 have r2 : w1.cell? ⟨w.heap.size, 2, none⟩ = some (.bool false) := cell_later hB (by go_simp)
 have r3 : w1.cell? ⟨w.heap.size, 3, none⟩ = some (.bool false) := cell_later hB (by go_simp)
 have r4 : w1.cell? ⟨w.heap.size, 4, none⟩ = some (.bool false) := cell_later hB (by go_simp)
 have f0 : w1.frozen? ⟨w.heap.size, 0, none⟩ = false := keepFr hB (by simp; try omega) (by go_simp)
 have f1 : w1.frozen? ⟨w.heap.size, 1, none⟩ = false := keepFr hB (by simp; try omega) (by go_simp)
 have f2 : w1.frozen? ⟨w.heap.size, 2, none⟩ = false := keepFr hB (by simp; try omega) (by go_simp)
 have f3 : w1.frozen? ⟨w.heap.size, 3, none⟩ = false := keepFr hB (by simp; try omega) (by go_simp)
 have f4 : w1.frozen? ⟨w.heap.size, 4, none⟩ = false := keepFr hB (by simp; try omega) (by go_simp)
 have bl : Below w.heap.size w w1 := (Below.refl _ _).alloc (Nat.le_refl _) _ |>.trans (hB.mono (by simp))
 clear hB
 go_wp2
 refine bodyPost_ret (v := EffV v v true false false) (by simp [results, Try.results84, go_sem, r0, r1, r2, r3, r4, EffV]) rfl ⟨rfl, ?_⟩
 exact ((bl.setCell (by simp; try omega) _).setCell (by simp; try omega) _).setCell (by simp; try omega) _
theorem ponly (v : Int) (w : World) : Calls Try.prog 84 #[.int .i64 v] w fun e w' => e = .returned (EffV v v true false false) ∧ Below w.heap.size w w' := ponly_w v w (fun w => Lib.hid (psure_any v v w))
theorem pcon1_w (a b c d x y : Int) (w : World) (e1 : wrap64 (a * c) = x) (e2 : IntKind.i64.wrap (a * c) = x) (e3 : wrap64 (b * d) = y) (e4 : IntKind.i64.wrap (b * d) = y) (SR : ∀ w, Hid (Calls Try.prog 81 #[.agg #[.int .i64 x, .int .i64 y]] w fun e w' => e = .returned (.agg #[.int .i64 x, .int .i64 y, .bool true, .bool false, .bool false]) ∧ Below w.heap.size w w')) :
   Calls Try.prog 106 #[.agg #[.int .i64 a, .int .i64 b], .agg #[.int .i64 c, .int .i64 d]] w fun e w' => e = .returned (EffV x y true false false) ∧ Below w.heap.size w w' := by
 go_enter Try.func106, Try.ntmps106
 go_wp2_with fail
 refine (SR _).out.mono ?_
 rintro e w1 ⟨rfl, hB⟩
 have z : w.heap.size + 1 + 1 < w1.heap.size := by have := hB.size; simp at this; omega
 have r0 : w1.cell? ⟨w.heap.size + 1 + 1, 0, none⟩ = some (.int .i64 0) := cell_later hB (by go_simp)
 have r1 : w1.cell? ⟨w.heap.size + 1 + 1, 1, none⟩ = some (.int .i64 0) := cell_later hB (by go_simp)
 have r2 : w1.cell? ⟨w.heap.size + 1 + 1, 2, none⟩ = some (.bool false) := cell_later hB (by go_simp)
 have r3 : w1.cell? ⟨w.heap.size + 1 + 1, 3, none⟩ = some (.bool false) := cell_later hB (by go_simp)
 have r4 : w1.cell? ⟨w.heap.size + 1 + 1, 4, none⟩ = some (.bool false) := cell_later hB (by go_simp)
 have f0 : w1.frozen? ⟨w.heap.size + 1 + 1, 0, none⟩ = false := keepFr hB (by simp; try omega) (by go_simp)
 have f1 : w1.frozen? ⟨w.heap.size + 1 + 1, 1, none⟩ = false := keepFr hB (by simp; try omega) (by go_simp)
 have f2 : w1.frozen? ⟨w.heap.size + 1 + 1, 2, none⟩ = false := keepFr hB (by simp; try omega) (by go_simp)
 have f3 : w1.frozen? ⟨w.heap.size + 1 + 1, 3, none⟩ = false := keepFr hB (by simp; try omega) (by go_simp)
 have f4 : w1.frozen? ⟨w.heap.size + 1 + 1, 4, none⟩ = false := keepFr hB (by simp; try omega) (by go_simp)
 have bl : Below w.heap.size w w1 := (((Below.refl _ _).alloc (Nat.le_refl _) _).alloc (by simp) _).alloc (by simp; omega) _ |>.trans (hB.mono (by simp; omega))
 clear hB
 go_wp2
 refine bodyPost_ret (v := EffV x y true false false) (by simp [results, Try.results106, go_sem, r0, r1, r2, r3, r4, EffV]) rfl ⟨rfl, ?_⟩
 exact ((bl.setCell (by simp; try omega) _).setCell (by simp; try omega) _).setCell (by simp; try omega) _
theorem pcon2_w (a b c d : Int) (w : World) (SR : ∀ w, Hid (Calls Try.prog 81 #[.agg #[.int .i64 (max a c), .int .i64 (max b d)]] w fun e w' => e = .returned (.agg #[.int .i64 (max a c), .int .i64 (max b d), .bool true, .bool false, .bool false]) ∧ Below w.heap.size w w')) :
   Calls Try.prog 107 #[.agg #[.int .i64 a, .int .i64 b], .agg #[.int .i64 c, .int .i64 d]] w fun e w' => e = .returned (EffV (max a c) (max b d) true false false) ∧ Below w.heap.size w w' := by
 have m0 : ∀ n m : Int, (if n < m then m else n) = max n m := by intro n m; split <;> omega
 go_enter Try.func107, Try.ntmps107
 go_wp2_with fail
 refine (SR _).out.mono ?_
 rintro e w1 ⟨rfl, hB⟩
 have z : w.heap.size + 1 + 1 < w1.heap.size := by have := hB.size; simp at this; omega
 have r0 : w1.cell? ⟨w.heap.size + 1 + 1, 0, none⟩ = some (.int .i64 0) := cell_later hB (by go_simp)
 have r1 : w1.cell? ⟨w.heap.size + 1 + 1, 1, none⟩ = some (.int .i64 0) := cell_later hB (by go_simp)
 have r2 : w1.cell? ⟨w.heap.size + 1 + 1, 2, none⟩ = some (.bool false) := cell_later hB (by go_simp)
 have r3 : w1.cell? ⟨w.heap.size + 1 + 1, 3, none⟩ = some (.bool false) := cell_later hB (by go_simp)
 have r4 : w1.cell? ⟨w.heap.size + 1 + 1, 4, none⟩ = some (.bool false) := cell_later hB (by go_simp)
 have f0 : w1.frozen? ⟨w.heap.size + 1 + 1, 0, none⟩ = false := keepFr hB (by simp; try omega) (by go_simp)
 have f1 : w1.frozen? ⟨w.heap.size + 1 + 1, 1, none⟩ = false := keepFr hB (by simp; try omega) (by go_simp)
 have f2 : w1.frozen? ⟨w.heap.size + 1 + 1, 2, none⟩ = false := keepFr hB (by simp; try omega) (by go_simp)
 have f3 : w1.frozen? ⟨w.heap.size + 1 + 1, 3, none⟩ = false := keepFr hB (by simp; try omega) (by go_simp)
 have f4 : w1.frozen? ⟨w.heap.size + 1 + 1, 4, none⟩ = false := keepFr hB (by simp; try omega) (by go_simp)
 have bl : Below w.heap.size w w1 := (((Below.refl _ _).alloc (Nat.le_refl _) _).alloc (by simp) _).alloc (by simp; omega) _ |>.trans (hB.mono (by simp; omega))
 clear hB
 go_wp2
 refine bodyPost_ret (v := EffV (max a c) (max b d) true false false) (by simp [results, Try.results107, go_sem, r0, r1, r2, r3, r4, EffV]) rfl ⟨rfl, ?_⟩
 exact ((bl.setCell (by simp; try omega) _).setCell (by simp; try omega) _).setCell (by simp; try omega) _
theorem con_find (op a b c d x y : Int) (s t u : Bool) (g i : Nat) (hf : Instr.findNow (.int .i64) (.int .i64 op) [⟨.int .i64 17, .func (.func 106) #[] #[], 0⟩, ⟨.int .i64 18, .func (.func 107) #[] #[], 1⟩] 0 = some (some (i, .func (.func g) #[] #[]))) (hE : Enters g)
   (hM : ∀ w, Calls Try.prog g #[.agg #[.int .i64 a, .int .i64 b], .agg #[.int .i64 c, .int .i64 d]] w fun e w' => e = .returned (EffV x y s t u) ∧ Below w.heap.size w w') (w : World) :
   Calls Try.prog 61 #[] w (FindEff op a b c d x y s t u w) := by
 refine (pconnectives w).mono ?_
 rintro e w' ⟨b', rfl, hb, _, _, hB⟩
 refine ⟨_, g, #[], rfl, hB, run_look (i := i) Try.underlying100 Try.underlying3 hb hf true, hE, ?_⟩
 intro w2 h2
 exact hM w2
theorem con_some (op : Int) (h : op = 17 ∨ op = 18) (w : World) : Calls Try.prog 61 #[] w (FindSome op w) := by
 refine (pconnectives w).mono ?_
 rintro e w' ⟨b', rfl, hb, _, _, hB⟩
 rcases h with rfl | rfl
 · exact ⟨_, 106, #[], rfl, hB, run_look (i := 0) Try.underlying100 Try.underlying3 hb rfl true⟩
 · exact ⟨_, 107, #[], rfl, hB, run_look (i := 1) Try.underlying100 Try.underlying3 hb rfl true⟩
theorem con_no (op : Int) (h : op ≠ 17 ∧ op ≠ 18) (w : World) : Calls Try.prog 61 #[] w (FindNo op w) := by
 refine (pconnectives w).mono ?_
 rintro e w' ⟨b', rfl, hb, _, _, hB⟩
 have e1 : (op == 17) = false := by simpa using h.1
 have e2 : (op == 18) = false := by simpa using h.2
 refine ⟨_, rfl, hB, run_look_none Try.underlying100 Try.underlying3 hb ?_ (zero_op w') true⟩
 simp only [Instr.findNow, Instr.sameNow, if_true]
 rw [e1, e2]
theorem ent_n1 : Enters 106 := fun _ _ => by kernel_rfl
theorem ent_n2 : Enters 107 := fun _ _ => by kernel_rfl
theorem comp_nil (k op : Int) (h : cmpOK k op = false) (w : World) : Hid (Calls Try.prog 45 #[.int .i64 k] w (CompOut [(op, .nilFunc)] w)) := by
 have C := pcomp_any k [op] w
 simp only [List.map_cons, List.map_nil, nar_no h] at C
 exact Lib.hid C
theorem truth_in {a b : Int} (h : checkErr 3 a b = 0) : 0 ≤ a ∧ a ≤ b ∧ b ≤ 1 := by
 have o := check_parts h
 have h1 := o.2.2.1
 have h2 := o.2.2.2
 exact ⟨by simpa [fullLow] using h1, o.2.1, by simpa [fullHigh] using h2⟩
theorem bin_land (a b c d : Int) (h1 : checkErr 3 a b = 0) (h2 : checkErr 3 c d = 0) : BinIs 17 3 a b c d := by
 intro w
 have A := are2_any 3 a b c d
 rw [okB_of h1, okB_of h2] at A
 have x := truth_in h1
 have y := truth_in h2
 have m1 := mul_byte (u := a) (v := c) (by omega) (by omega) (by omega) (by omega)
 have m2 := mul_byte (u := b) (v := d) (by omega) (by omega) (by omega) (by omega)
 have w1 : ∀ n : Int, 0 ≤ n → n ≤ 65025 → wrap64 n = n := by intro n h1 h2; unfold wrap64; omega
 have w2 : ∀ n : Int, 0 ≤ n → n ≤ 65025 → IntKind.i64.wrap n = n := by intro n h1 h2; rw [IntKind.wrap_i64]; omega
 exact pbinary_ok 17 3 a b c d (a * c) (b * d) true false false w (fun w => Lib.hid (pbof_con 17 a b c d _ _ true false false w (fun w => comp_nil 3 17 (by rfl) w) (fun w => Lib.hid (con_find 17 a b c d _ _ true false false 106 0 rfl ent_n1
   (fun w => pcon1_w a b c d _ _ w (w1 _ m1.1 m1.2) (w2 _ m1.1 m1.2) (w1 _ m2.1 m2.2) (w2 _ m2.1 m2.2) (fun w => Lib.hid (psure_any _ _ w))) w)))) A
theorem bin_lor (a b c d : Int) (h1 : checkErr 3 a b = 0) (h2 : checkErr 3 c d = 0) : BinIs 18 3 a b c d := by
 intro w
 have A := are2_any 3 a b c d
 rw [okB_of h1, okB_of h2] at A
 exact pbinary_ok 18 3 a b c d (max a c) (max b d) true false false w (fun w => Lib.hid (pbof_con 18 a b c d _ _ true false false w (fun w => comp_nil 3 18 (by rfl) w) (fun w => Lib.hid (con_find 18 a b c d _ _ true false false 107 1 rfl ent_n2
   (fun w => pcon2_w a b c d w (fun w => Lib.hid (psure_any _ _ w))) w)))) A
end Go.Proofs.Ytgkhldbnljdeiaa
