/- RngZX, RngZY, RngZZ, RefF4. -/
import Derived.Test.YtgkhldbnljdeiaaPutRules
import Derived.Test.YtgkhldbnljdeiaaQRngZW
import Derived.Test.YtgkhldbnljdeiaaQRngZBToRngZG
import Derived.Test.YtgkhldbnljdeiaaQRngZUToRngZV
import Derived.Test.YtgkhldbnljdeiaaQRngZOToRngZR
import Derived.Test.YtgkhldbnljdeiaaQRefF2
import Derived.Test.YtgkhldbnljdeiaaQRefF3
import Derived.Test.YtgkhldbnljdeiaaQGlueAToRngN
set_option maxRecDepth 100000
set_option maxHeartbeats 4000000
set_option linter.unusedSimpArgs false
set_option linter.unusedVariables false
namespace Go.Proofs.Ytgkhldbnljdeiaa
open Go.RowKit RangesMath
attribute [local go_sem] World.setCell_self
/-- An operator made of two narrowings, which lie in two cells. -/
def CmpFn (f g : Nat) (w : World) (v : Value) (w' : World) : Prop := ∃ p q, v = .func (.func 80) #[] #[.pointer (some ⟨p, 0, none⟩), .pointer (some ⟨q, 0, none⟩)] ∧ p < w'.heap.size ∧ q < w'.heap.size ∧ w'.cell? ⟨p, 0, none⟩ = some (.func (.func f) #[] #[]) ∧ w'.cell? ⟨q, 0, none⟩ = some (.func (.func g) #[] #[]) ∧ Below w.heap.size w w'
theorem pcompared (f g : Nat) (w : World) : Calls Try.prog 58 #[.func (.func f) #[] #[], .func (.func g) #[] #[]] w fun e w' => ∃ v, e = .returned v ∧ CmpFn f g w v w' := by
 go_enter Try.func58, Try.ntmps58
 go_wp2
 go_ret
 exact ⟨_, rfl, w.heap.size, w.heap.size + 1, rfl, by simp; omega, by simp, by go_simp, by go_simp, ((Below.refl _ _).alloc (Nat.le_refl _) _).alloc (by simp) _⟩
def BofCmp (f g : Nat) (w : World) (e : Ending) (w' : World) : Prop := ∃ v, e = .returned (.tuple #[v, .bool true]) ∧ CmpFn f g w v w'
theorem pbof_cmp (op op' k : Int) (f g : Nat) (w : World) (C : ∀ w, Hid (Calls Try.prog 45 #[.int .i64 k] w (CompOut [(op, fnV f), (op', fnV g)] w))) (OP : ∀ w, Hid (Calls Try.prog 46 #[.int .i64 op] w fun e w' => e = .returned (.int .i64 op') ∧ w = w')) (CM : ∀ w, Hid (Calls Try.prog 58 #[.func (.func f) #[] #[], .func (.func g) #[] #[]] w fun e w' => ∃ v, e = .returned v ∧ CmpFn f g w v w')) :
   Calls Try.prog 37 #[.int .i64 op, .int .i64 k] w (BofCmp f g w) := by
 have q0 := run_neq_fn
 go_enter Try.func37, Try.ntmps37
 go_wp2_with fail
 refine (C _).out.mono ?_
 rintro e w1 ⟨m, rfl, hb1, hM⟩
 have M0 := Lib.hid (hM _ (List.mem_cons_self ..))
 have M1 := Lib.hid (hM _ (List.mem_cons_of_mem _ (List.mem_singleton.2 rfl)))
 have L := M0.out w1 (Below.refl _ _)
 dsimp only [fnV] at L
 clear hM
 go_wp2_with fail
 clear L
 refine wp_region_held_drew (S := fun w' => Below w1.heap.size w1 w') (by kernel_rfl) (Below.refl _ _).drew (fun hHeld => ?_)
 refine tk (i := 0) (v := ?_) rfl (by kernel_rfl) (by kernel_rfl) (by kernel_rfl) (fun _ _ _ h => h) (Or.inl ⟨by rfl, ?_⟩) (by assumption) ?_
 rotate_left
 focus (intro w' hSw; (try dsimp only at hSw); have L0 := M0.out w' hSw; have L1 := M1.out w' hSw; dsimp only [fnV] at L0 L1; go_simp; try with_reducible rfl)
 try simp only [Act.put, p1, p2, p3, p4, p5, p6]
 refine tk (i := 1) (v := ?_) rfl (by kernel_rfl) (by kernel_rfl) (by kernel_rfl) (fun _ _ _ h => h) (Or.inl ⟨by rfl, ?_⟩) (by assumption) ?_
 rotate_left
 focus (intro w' hSw; (try dsimp only at hSw); have L0 := M0.out w' hSw; have L1 := M1.out w' hSw; dsimp only [fnV] at L0 L1; go_simp; try with_reducible rfl)
 try simp only [Act.put, p1, p2, p3, p4, p5, p6]
 refine tk (i := 2) (v := ?_) rfl (by kernel_rfl) (by kernel_rfl) (by kernel_rfl) (fun _ _ _ h => h) (Or.inl ⟨by rfl, ?_⟩) (by assumption) ?_
 rotate_left
 focus (intro w' hSw; (try dsimp only at hSw); have L0 := M0.out w' hSw; have L1 := M1.out w' hSw; dsimp only [fnV] at L0 L1; go_simp; try with_reducible rfl)
 try simp only [Act.put, p1, p2, p3, p4, p5, p6]
 refine tk (i := 3) (v := ?_) rfl (by kernel_rfl) (by kernel_rfl) (by kernel_rfl) (fun _ _ _ h => h) (Or.inl ⟨by rfl, ?_⟩) (by assumption) ?_
 rotate_left
 focus (intro w' hSw; (try dsimp only at hSw); have L0 := M0.out w' hSw; have L1 := M1.out w' hSw; dsimp only [fnV] at L0 L1; go_simp; try with_reducible rfl)
 try simp only [Act.put, p1, p2, p3, p4, p5, p6]
 refine tk (i := 4) (v := ?_) rfl (by kernel_rfl) (by kernel_rfl) (by kernel_rfl) (fun _ _ _ h => h) (Or.inl ⟨by rfl, ?_⟩) (by assumption) ?_
 rotate_left
 focus (intro w' hSw; (try dsimp only at hSw); have L0 := M0.out w' hSw; have L1 := M1.out w' hSw; dsimp only [fnV] at L0 L1; go_simp; try with_reducible rfl)
 try simp only [Act.put, p1, p2, p3, p4, p5, p6]
 refine rd (rs := [5]) (by kernel_rfl) (by simp) ?_
 refine AllReadyH.cons rfl (fun K hK => ?_) AllReadyH.nil
 go_simp
 go_at_call 46
 refine (OP _).out.mono ?_
 rintro e5 w5 ⟨rfl, rfl⟩
 go_wp2_with fail
 refine hK.out _ _ (Below.refl _ _).drew (fun hHeld => ?_)
 clear hK K
 try simp only [Act.put, p1, p2, p3, p4, p5, p6]
 refine tk (i := 6) (v := ?_) rfl (by kernel_rfl) (by kernel_rfl) (by kernel_rfl) (fun _ _ _ h => h) (Or.inl ⟨by rfl, ?_⟩) (by assumption) ?_
 rotate_left
 focus (intro w' hSw; (try dsimp only at hSw); have L0 := M0.out w' hSw; have L1 := M1.out w' hSw; dsimp only [fnV] at L0 L1; go_simp; try with_reducible rfl)
 try simp only [Act.put, p1, p2, p3, p4, p5, p6]
 refine rd (rs := [7]) (by kernel_rfl) (by simp) ?_
 refine AllReadyH.cons rfl (fun K hK => ?_) AllReadyH.nil
 go_simp
 go_at_call 58
 refine (CM _).out.mono ?_
 rintro e7 w7 ⟨v, rfl, p, q, rfl, hp, hq, cp, cq, hB⟩
 go_wp2_with fail
 refine hK.out _ _ ((Below.refl w1.heap.size w1).drew.trans (hB.mono (by simp))) (fun hHeld => ?_)
 clear hK K
 try simp only [Act.put, p1, p2, p3, p4, p5, p6]
 refine tk (i := 8) (v := ?_) rfl (by kernel_rfl) (by kernel_rfl) (by kernel_rfl) (fun _ _ _ h => h) (Or.inl ⟨by rfl, ?_⟩) (by assumption) ?_
 rotate_left
 focus (intro w' hSw; (try dsimp only at hSw); have L0 := M0.out w' hSw; have L1 := M1.out w' hSw; dsimp only [fnV] at L0 L1; go_simp; try with_reducible rfl)
 try simp only [Act.put, p1, p2, p3, p4, p5, p6]
 refine tk (i := 9) (v := ?_) rfl (by kernel_rfl) (by kernel_rfl) (by kernel_rfl) (fun _ _ _ h => h) (Or.inl ⟨by rfl, ?_⟩) (by assumption) ?_
 rotate_left
 focus (intro w' hSw; (try dsimp only at hSw); have L0 := M0.out w' hSw; have L1 := M1.out w' hSw; dsimp only [fnV] at L0 L1; go_simp; try with_reducible rfl)
 try simp only [Act.put, p1, p2, p3, p4, p5, p6]
 refine wpAnyH_done (by kernel_rfl) ?_ _
 go_wp2
 go_ret2
 exact ⟨_, rfl, p, q, rfl, hp, hq, cp, cq, hb1.trans (((Below.refl w1.heap.size w1).drew.trans (hB.mono (by simp))).mono hb1.size)⟩
end Go.Proofs.Ytgkhldbnljdeiaa
namespace Go.Proofs.Ytgkhldbnljdeiaa
open Go.RowKit RangesMath Go.MapKept
theorem narS_p (op a b c d : Int) : (narS op a b c d).p = (leftS op a b c d).p := by
 unfold narS
 cases h : (leftS op a b c d).p <;> simp [h]
theorem left_p12 (a b c d : Int) (h1 : a ≤ b) (h2 : c ≤ d) : (neLeft a b c d).p = !(a == b && a == c && b == d) := by
 by_cases e : a = b ∧ a = c ∧ b = d
 · obtain ⟨rfl, rfl, rfl⟩ := e
   simp [neLeft, woLow, woHigh]
 · have r : (a == b && a == c && b == d) = false := by
     rw [Bool.eq_false_iff]
     simp only [ne_eq, Bool.and_eq_true, beq_iff_eq]
     omega
   rw [r]
   unfold neLeft woLow woHigh
   simp only [beq_iff_eq, Bool.not_false, Bool.and_eq_true, decide_eq_true_eq]
   constructor <;> (repeat' split) <;> omega
/-- What a comparison leaves says what it makes. -/
theorem comp_of (op a b c d : Int) (o1 : 11 ≤ op) (o2 : op ≤ 16) (h : Ok64 a b) (g : Ok64 c d) :
   compS op a b c d = (if (leftS (oppS op) a b c d).p then 0 else 1, if (leftS op a b c d).p then 1 else 0) ∧ ((leftS (oppS op) a b c d).p = true ∨ (leftS op a b c d).p = true) := by
 have l1 := h.le
 have l2 := g.le
 have b1 := h.lo
 have b2 := h.hi
 have b3 := g.lo
 have b4 := g.hi
 have e11 : (leftS 11 a b c d).p = decide (max a c ≤ min b d) := by
   show (eqLeft a b c d).p = _
   unfold eqLeft
   split
   · rename_i h; simp [h]
   · rename_i h; simp [h]
 have e12 : (leftS 12 a b c d).p = !(a == b && a == c && b == d) := left_p12 a b c d l1 l2
 have lt : ∀ a b c d : Int, -9223372036854775808 ≤ a → a ≤ 9223372036854775807 → d ≤ 9223372036854775807 → (ltLeft a b c d).p = decide (a < d) ∨ d = -9223372036854775808 := by
   intro a b c d q1 q2 q3
   unfold ltLeft
   split
   · rename_i h
     rcases h with h | h
     · exact .inr h
     · left; simp; omega
   · exact .inl rfl
 have e13 : (leftS 13 a b c d).p = decide (a < d) := by
   rcases lt a b c d b1 (by omega) b4 with e | e
   · exact e
   · show (ltLeft a b c d).p = _
     unfold ltLeft
     rw [if_pos (.inl e)]
     simp; omega
 have e15 : (leftS 15 a b c d).p = decide (c < b) := by
   rcases lt c d a b b3 (by omega) b2 with e | e
   · exact e
   · show (ltLeft c d a b).p = _
     unfold ltLeft
     rw [if_pos (.inl e)]
     simp; omega
 have e14 : (leftS 14 a b c d).p = decide (a ≤ d) := rfl
 have e16 : (leftS 16 a b c d).p = decide (c ≤ b) := rfl
 obtain rfl | rfl | rfl | rfl | rfl | rfl : op = 11 ∨ op = 12 ∨ op = 13 ∨ op = 14 ∨ op = 15 ∨ op = 16 := by omega
 · rw [show oppS 11 = 12 by rfl, e11, e12]
   simp only [compS, truthR, Int.reduceEq, if_true, if_false, Prod.mk.injEq, Bool.and_eq_true, Bool.or_eq_true, beq_iff_eq, decide_eq_true_eq, Bool.not_eq_true', Bool.eq_false_iff, ne_eq]
   refine ⟨⟨?_, ?_⟩, ?_⟩ <;> (repeat' split) <;> omega
 · rw [show oppS 12 = 11 by rfl, e11, e12]
   simp only [compS, truthR, Int.reduceEq, if_true, if_false, Prod.mk.injEq, Bool.and_eq_true, Bool.or_eq_true, beq_iff_eq, decide_eq_true_eq, Bool.not_eq_true', Bool.eq_false_iff, ne_eq]
   refine ⟨⟨?_, ?_⟩, ?_⟩ <;> (repeat' split) <;> omega
 · rw [show oppS 13 = 16 by rfl, e13, e16]
   simp only [compS, truthR, Int.reduceEq, if_true, if_false, Prod.mk.injEq, decide_eq_true_eq]
   refine ⟨⟨?_, ?_⟩, ?_⟩ <;> (repeat' split) <;> omega
 · rw [show oppS 14 = 15 by rfl, e14, e15]
   simp only [compS, truthR, Int.reduceEq, if_true, if_false, Prod.mk.injEq, decide_eq_true_eq]
   refine ⟨⟨?_, ?_⟩, ?_⟩ <;> (repeat' split) <;> omega
 · rw [show oppS 15 = 14 by rfl, e15, e14]
   simp only [compS, truthR, Int.reduceEq, if_true, if_false, Prod.mk.injEq, decide_eq_true_eq]
   refine ⟨⟨?_, ?_⟩, ?_⟩ <;> (repeat' split) <;> omega
 · rw [show oppS 16 = 13 by rfl, e16, e13]
   simp only [compS, truthR, Int.reduceEq, if_true, if_false, Prod.mk.injEq, decide_eq_true_eq]
   refine ⟨⟨?_, ?_⟩, ?_⟩ <;> (repeat' split) <;> omega
theorem ent_cmp : Enters 80 := fun _ _ => by kernel_rfl
theorem comp_pair {k op : Int} {f g : Nat} (ef : narV k op = fnV f) (eg : narV k (oppS op) = fnV g) (w : World) : Calls Try.prog 45 #[.int .i64 k] w (CompOut [(op, fnV f), (oppS op, fnV g)] w) := by
 have C := pcomp_any k [op, oppS op] w
 simp only [List.map_cons, List.map_nil, ef, eg] at C
 exact C
theorem cmp_ops {k op : Int} (h : cmpOK k op = true) : 11 ≤ op ∧ op ≤ 16 := by
 simp only [cmpOK, Bool.and_eq_true, decide_eq_true_eq] at h
 exact h.1
theorem bin_cmp (op k a b c d : Int) (h : cmpOK k op = true) (h1 : checkErr k a b = 0) (h2 : checkErr k c d = 0) : BinIs op k a b c d := by
 intro w
 have ho := cmp_ops h
 obtain ⟨f, ef, hent, hn⟩ := nar_ok h
 obtain ⟨g, eg, hent', hn'⟩ := nar_ok (cmpOK_opp h)
 have g1 := check_ok64 h1
 have g2 := check_ok64 h2
 have A := are2_any k a b c d
 rw [okB_of h1, okB_of h2] at A
 have E : binS op k a b c d = ⟨(compS op a b c d).1, (compS op a b c d).2, true, false, false⟩ := by
   unfold binS
   rw [if_neg (by omega), if_neg (by omega), if_neg (by omega), if_neg (by omega), if_neg (by omega), if_neg (by omega), if_neg (by omega), if_neg (by omega), if_pos ho.2]
 obtain ⟨es, en⟩ := comp_of op a b c d ho.1 ho.2 g1 g2
 rw [E, es]
 refine pbinary_ok op k a b c d _ _ true false false w (fun w => Lib.hid ?_) A
 refine (pbof_cmp op (oppS op) k f g w (fun w => Lib.hid (comp_pair ef eg w)) (fun w => Lib.hid (popposite_any op w ho.1 ho.2)) (fun w => Lib.hid (pcompared f g w))).mono ?_
 rintro e w' ⟨v, rfl, p, q, rfl, hp, hq, cp, cq, hB⟩
 refine ⟨80, _, rfl, hB, ent_cmp, ?_⟩
 intro w2 h3
 have lp := Nat.lt_of_lt_of_le hp h3.size
 have lq := Nat.lt_of_lt_of_le hq h3.size
 have cp' := (h3.cell (p := ⟨p, 0, none⟩) hp).trans cp
 have cq' := (h3.cell (p := ⟨q, 0, none⟩) hq).trans cq
 have F : ∀ r, (leftS op a b c d).p = r → Narrows f a b c d (narS op a b c d).x0 (narS op a b c d).x1 (narS op a b c d).y0 (narS op a b c d).y1 r := by
   rintro r rfl w
   have e := hn a b c d w g1 g2
   rw [← narS_p]
   exact Lib.hid e
 have G : ∀ r, (leftS (oppS op) a b c d).p = r → Narrows g a b c d (narS (oppS op) a b c d).x0 (narS (oppS op) a b c d).x1 (narS (oppS op) a b c d).y0 (narS (oppS op) a b c d).y1 r := by
   rintro r rfl w
   have e := hn' a b c d w g1 g2
   rw [← narS_p]
   exact Lib.hid e
 cases hP : (leftS op a b c d).p with
 | true =>
   cases hQ : (leftS (oppS op) a b c d).p with
   | true => exact pcmp_tt a b c d _ _ _ _ _ _ _ _ f g p q w2 lp lq cp' cq' hent hent' (F _ hP) (G _ hQ) (sure_of _ _)
   | false => exact pcmp_tf a b c d _ _ _ _ _ _ _ _ f g p q w2 lp lq cp' cq' hent hent' (F _ hP) (G _ hQ) (sure_of _ _)
 | false =>
   have hQ : (leftS (oppS op) a b c d).p = true := by
     rcases en with h | h
     · exact h
     · rw [hP] at h; exact absurd h (by decide)
   rw [hQ]
   exact pcmp_ft a b c d _ _ _ _ _ _ _ _ f g p q w2 lp lq cp' cq' hent hent' (F _ hP) (G _ hQ) (sure_of _ _)
end Go.Proofs.Ytgkhldbnljdeiaa
namespace Go.Proofs.Ytgkhldbnljdeiaa
open Go.RowKit RangesMath Go.MapKept
theorem arith_some (op k : Int) (g i : Nat) (cap : Nat → Array Value) (hf : ∀ n, Instr.findNow (.int .i64) (.int .i64 op) (arithmeticEs n).toList 0 = some (some (i, .func (.func g) #[] (cap n)))) (w : World) : Calls Try.prog 60 #[.int .i64 k] w (FindSome op w) := by
 refine (parithmetic k w).mono ?_
 rintro e w' ⟨b', rfl, hb, hl, hk, hz, hB⟩
 exact ⟨_, g, _, rfl, hB, run_look Try.underlying100 Try.underlying3 hb (hf _) true⟩
theorem arith_any (op k : Int) (h1 : 1 ≤ op) (h2 : op ≤ 7) (w : World) : Calls Try.prog 60 #[.int .i64 k] w (FindSome op w) := by
 obtain rfl | rfl | rfl | rfl | rfl | rfl | rfl : op = 1 ∨ op = 2 ∨ op = 3 ∨ op = 4 ∨ op = 5 ∨ op = 6 ∨ op = 7 := by omega
 · exact arith_some 1 k _ 0 (fun n => #[.pointer (some ⟨n, 0, none⟩)]) (fun n => rfl) w
 · exact arith_some 2 k _ 1 (fun n => #[.pointer (some ⟨n, 0, none⟩)]) (fun n => rfl) w
 · exact arith_some 3 k _ 2 (fun n => #[]) (fun n => rfl) w
 · exact arith_some 4 k _ 3 (fun n => #[.pointer (some ⟨n, 0, none⟩)]) (fun n => rfl) w
 · exact arith_some 5 k _ 4 (fun n => #[.pointer (some ⟨n, 0, none⟩)]) (fun n => rfl) w
 · exact arith_some 6 k _ 5 (fun n => #[.pointer (some ⟨n, 0, none⟩)]) (fun n => rfl) w
 · exact arith_some 7 k _ 6 (fun n => #[.pointer (some ⟨n, 0, none⟩)]) (fun n => rfl) w
theorem bits_some (op k : Int) (g i : Nat) (cap : Nat → Array Value) (hf : ∀ n, Instr.findNow (.int .i64) (.int .i64 op) (bitwiseEs n).toList 0 = some (some (i, .func (.func g) #[] (cap n)))) (w : World) : Calls Try.prog 59 #[.int .i64 k] w (FindSome op w) := by
 refine (pbitwise k w).mono ?_
 rintro e w' ⟨b', rfl, hb, hl, hk, hz, hB⟩
 exact ⟨_, g, _, rfl, hB, run_look Try.underlying100 Try.underlying3 hb (hf _) true⟩
theorem bits_any_some (op k : Int) (h1 : 8 ≤ op) (h2 : op ≤ 10) (w : World) : Calls Try.prog 59 #[.int .i64 k] w (FindSome op w) := by
 obtain rfl | rfl | rfl : op = 8 ∨ op = 9 ∨ op = 10 := by omega
 · exact bits_some 8 k _ 0 (fun n => #[.pointer (some ⟨n, 0, none⟩)]) (fun n => rfl) w
 · exact bits_some 9 k _ 1 (fun n => #[.pointer (some ⟨n, 0, none⟩)]) (fun n => rfl) w
 · exact bits_some 10 k _ 2 (fun n => #[.pointer (some ⟨n, 0, none⟩)]) (fun n => rfl) w
theorem fits_parts {op k : Int} (h : fits2 op k = true) : cmpOK k op = true ∨ (cmpOK k op = false ∧ ((1 ≤ op ∧ op ≤ 10 ∧ (k = 1 ∨ k = 2)) ∨ ((op = 17 ∨ op = 18) ∧ k = 3))) := by
 have h' := h
 simp only [fits2, decide_eq_true_eq] at h'
 by_cases ho : 11 ≤ op ∧ op ≤ 16
 · left; unfold cmpOK; rw [h, Bool.and_true]; simpa using ho
 · right; refine ⟨by unfold cmpOK; rw [h, Bool.and_true]; simpa using ho, ?_⟩; omega
theorem fits_no {op k : Int} (h : fits2 op k = false) : cmpOK k op = false := by unfold cmpOK; rw [h, Bool.and_false]
/-- Where an operator and a kind fit, binaryOf finds some function. -/
theorem bof_some (op k : Int) (h : fits2 op k = true) (w : World) : Calls Try.prog 37 #[.int .i64 op, .int .i64 k] w (BofSome w) := by
 rcases fits_parts h with hc | ⟨hc, ⟨h1, h2, hk⟩ | ⟨ho, rfl⟩⟩
 · have ho := cmp_ops hc
   obtain ⟨f, ef, _, _⟩ := nar_ok hc
   obtain ⟨g, eg, _, _⟩ := nar_ok (cmpOK_opp hc)
   refine (pbof_cmp op (oppS op) k f g w (fun w => Lib.hid (comp_pair ef eg w)) (fun w => Lib.hid (popposite_any op w ho.1 ho.2)) (fun w => Lib.hid (pcompared f g w))).mono ?_
   rintro e w' ⟨v, rfl, p, q, rfl, hp, hq, cp, cq, hB⟩
   exact ⟨_, _, rfl, hB⟩
 · have C := comp_nil k op hc
   by_cases hb : 8 ≤ op
   · rcases hk with rfl | rfl
     · exact pbof_bits_some_1 op w C (fun w => Lib.hid (bits_any_some op 1 hb h2 w))
     · exact pbof_bits_some_2 op w C (fun w => Lib.hid (bits_any_some op 2 hb h2 w))
   · rcases hk with rfl | rfl
     · exact pbof_arith_some_1 op w C (fun w => Lib.hid (bits_no 1 op (by omega) w)) (fun w => Lib.hid (arith_any op 1 h1 (by omega) w))
     · exact pbof_arith_some_2 op w C (fun w => Lib.hid (bits_no 2 op (by omega) w)) (fun w => Lib.hid (arith_any op 2 h1 (by omega) w))
 · exact pbof_con_some op w (comp_nil 3 op hc) (fun w => Lib.hid (con_some op ho w))
/-- Where they don't, it finds none. -/
theorem bof_no (op k : Int) (h : fits2 op k = false) (w : World) : Calls Try.prog 37 #[.int .i64 op, .int .i64 k] w (BofNo w) := by
 have C := comp_nil k op (fits_no h)
 simp only [fits2, decide_eq_false_iff_not] at h
 by_cases h1 : k = 1
 · subst h1
   exact pbof_none_1 op w C (fun w => Lib.hid (bits_no 1 op (by omega) w)) (fun w => Lib.hid (arith_no 1 op (by omega) w))
 by_cases h2 : k = 2
 · subst h2
   exact pbof_none_2 op w C (fun w => Lib.hid (bits_no 2 op (by omega) w)) (fun w => Lib.hid (arith_no 2 op (by omega) w))
 by_cases h3 : k = 3
 · subst h3
   exact pbof_none_3 op w C (fun w => Lib.hid (con_no op (by omega) w))
 exact pbof_none op k w (by simpa using h1) (by simpa using h2) (by simpa using h3) C
theorem bin_all (op k a b c d : Int) (h : fits2 op k = true) (h1 : checkErr k a b = 0) (h2 : checkErr k c d = 0) : BinIs op k a b c d := by
 rcases fits_parts h with hc | ⟨hc, ⟨o1, o2, hk⟩ | ⟨ho, rfl⟩⟩
 · exact bin_cmp op k a b c d hc h1 h2
 · obtain rfl | rfl | rfl | rfl | rfl | rfl | rfl | rfl | rfl | rfl : op = 1 ∨ op = 2 ∨ op = 3 ∨ op = 4 ∨ op = 5 ∨ op = 6 ∨ op = 7 ∨ op = 8 ∨ op = 9 ∨ op = 10 := by omega
   · exact bin_mul k a b c d hk h1 h2
   · exact bin_div k a b c d hk h1 h2
   · exact bin_rem k a b c d hk h1 h2
   · exact bin_add k a b c d hk h1 h2
   · exact bin_sub k a b c d hk h1 h2
   · exact bin_shl k a b c d hk h1 h2
   · exact bin_shr k a b c d hk h1 h2
   · exact bin_and k a b c d hk h1 h2
   · exact bin_xor k a b c d hk h1 h2
   · exact bin_or k a b c d hk h1 h2
 · rcases ho with rfl | rfl
   · exact bin_land a b c d h1 h2
   · exact bin_lor a b c d h1 h2
theorem okB_no {k a b : Int} (h : ¬ checkErr k a b = 0) : okB k a b = false := by simpa [okB] using h
theorem pbinary_spec : BinSpec 21 := by
 intro op k a b c d _ _ _ _ w
 refine Lib.hid ?_
 cases hf : fits2 op k with
 | false =>
   have hg : ¬ binGood op k a b c d = true := by unfold binGood; rw [hf]; simp
   have eE : binE op k a b c d = ⟨0, 0, false, false, false⟩ := by unfold binE; rw [if_neg hg]
   have eR : binErr op k a b c d = 2 := by unfold binErr; rw [if_neg hg]
   rw [eE, eR]
   exact pbinary_no op k a b c d w (fun w => Lib.hid (bof_no op k hf w))
 | true =>
   by_cases h : checkErr k a b = 0 ∧ checkErr k c d = 0
   · have hg : binGood op k a b c d = true := by unfold binGood; rw [hf, h.1, h.2]; rfl
     have eE : binE op k a b c d = binS op k a b c d := by unfold binE; rw [if_pos hg]
     have eR : binErr op k a b c d = 0 := by unfold binErr; rw [if_pos hg]
     rw [eE, eR]
     exact bin_all op k a b c d hf h.1 h.2 w
   · have hg : ¬ binGood op k a b c d = true := by
       intro hh
       have p := good_parts hh
       exact h p.2
     have eE : binE op k a b c d = ⟨0, 0, false, false, false⟩ := by unfold binE; rw [if_neg hg]
     have eR : binErr op k a b c d = 2 := by unfold binErr; rw [if_neg hg]
     rw [eE, eR]
     have A := are2_any k a b c d
     have e : (okB k a b && okB k c d) = false := by
       by_cases h1 : checkErr k a b = 0
       · rw [okB_no (k := k) (a := c) (b := d) (fun h2 => h ⟨h1, h2⟩), Bool.and_false]
       · rw [okB_no h1, Bool.false_and]
     rw [e] at A
     exact pbinary_unfit op k a b c d w (fun w => Lib.hid (bof_some op k hf w)) A
end Go.Proofs.Ytgkhldbnljdeiaa
namespace Go.Proofs.Ytgkhldbnljdeiaa
open Go.RowKit
theorem ref_binary_good (op k a b c d : Int) (w : World) (ha : In64 a) (hb : In64 b) (hc : In64 c) (hd : In64 d) (hf : fits2 op k = true) (ec : checkErr k a b = 0) (ed : checkErr k c d = 0) :
   Calls Try.prog 22 #[.int .i64 op, .int .i64 k, .agg #[.int .i64 a, .int .i64 b], .agg #[.int .i64 c, .int .i64 d]] w (BinR (RangesMath.binS op k a b c d).lo (RangesMath.binS op k a b c d).hi (RangesMath.binS op k a b c d).some (RangesMath.binS op k a b c d).trap (RangesMath.binS op k a b c d).undef 0 w) := by
 obtain ⟨hk, hab, hal, hbh⟩ := check_parts ec
 obtain ⟨-, hcd, hcl, hdh⟩ := check_parts ed
 have hf' := hf
 unfold fits2 at hf'
 simp only [decide_eq_true_eq] at hf'
 have hB : ∀ l h o, ∀ w, Hid (Calls Try.prog 35 #[.agg #[.int .i64 l, .int .i64 h, .bool o], .int .i64 k] w fun e w' => e = .returned (.agg #[.int .i64 (broughtS l h o k).1, .int .i64 (broughtS l h o k).2]) ∧ Below w.heap.size w w') := fun l h o w => Lib.hid (brought_any l h k o w)
 have small : k = 2 → 0 ≤ a ∧ b ≤ 255 ∧ 0 ≤ c ∧ d ≤ 255 := by
   intro h; subst h
   simp [fullLow, fullHigh] at hal hbh hcl hdh
   exact ⟨hal, hbh, hcl, hdh⟩
 have bool3 : k = 3 → 0 ≤ a ∧ b ≤ 1 ∧ 0 ≤ c ∧ d ≤ 1 := by
   intro h; subst h
   simp [fullLow, fullHigh] at hal hbh hcl hdh
   exact ⟨hal, hbh, hcl, hdh⟩
 by_cases h1 : op = 1
 · subst h1
   have q := bin_sum 1 k a b c d _ _ _ _ _ w (.inr (.inr rfl)) hf ec ed (corners_mul_any a b c d ha hb hc hd) (hB _ _ _)
   rw [corner_fin] at q
   exact q
 by_cases h23 : op = 2 ∨ op = 3
 · exact rbin_div op k a b c d _ _ _ _ _ w h23 hf ec ed (fun w => Lib.hid (divided_any op k a b c d w h23 ha hb hc hd hab hcd (fun hn => by
     rcases hk with h | h | h
     · exact h
     · have := small h; omega
     · omega)))
 by_cases h4 : op = 4
 · subst h4
   have q := bin_sum 4 k a b c d _ _ _ _ _ w (.inl rfl) hf ec ed (corners_add_any a b c d ha hb hc hd) (hB _ _ _)
   rw [corner_fin, show RangesMath.min4 (a + c) (a + d) (b + c) (b + d) = a + c by unfold RangesMath.min4; omega, show RangesMath.max4 (a + c) (a + d) (b + c) (b + d) = b + d by unfold RangesMath.max4; omega] at q
   exact q
 by_cases h5 : op = 5
 · subst h5
   have q := bin_sum 5 k a b c d _ _ _ _ _ w (.inr (.inl rfl)) hf ec ed (corners_sub_any a b c d ha hb hc hd) (hB _ _ _)
   rw [corner_fin, show RangesMath.min4 (a - c) (a - d) (b - c) (b - d) = a - d by unfold RangesMath.min4; omega, show RangesMath.max4 (a - c) (a - d) (b - c) (b - d) = b - c by unfold RangesMath.max4; omega] at q
   exact q
 by_cases h67 : op = 6 ∨ op = 7
 · exact bin_shift op k a b c d _ _ _ _ _ w h67 hf ec ed (fun w => Lib.hid (moved_any op k a b c d w h67 (by omega) ha hb hc hd hab hcd (fun h => ⟨(small h).1, (small h).2.1⟩)))
 by_cases h810 : 8 ≤ op ∧ op ≤ 10
 · have e : RangesMath.binS op k a b c d = ⟨(RangesMath.bitsS op k a b c d).1, (RangesMath.bitsS op k a b c d).2, true, false, false⟩ := by
     unfold RangesMath.binS
     rw [if_neg (by omega), if_neg (by omega), if_neg (by omega), if_neg (by omega), if_neg (by omega), if_neg (by omega), if_neg (by omega), if_pos (by omega)]
   rw [e]
   exact bin_bits op k a b c d _ _ w (by omega) hf ec ed (fun w => Lib.hid (bits_any op k a b c d w (by omega) (by omega) hab hcd hb.hi hd.hi))
 by_cases h1116 : 11 ≤ op ∧ op ≤ 16
 · have e : RangesMath.binS op k a b c d = ⟨(RangesMath.compS op a b c d).1, (RangesMath.compS op a b c d).2, true, false, false⟩ := by
     unfold RangesMath.binS
     rw [if_neg (by omega), if_neg (by omega), if_neg (by omega), if_neg (by omega), if_neg (by omega), if_neg (by omega), if_neg (by omega), if_neg (by omega), if_pos (by omega)]
   rw [e]
   exact bin_comp op k a b c d _ _ w (by omega) hf ec ed (fun w => Lib.hid (compared_any op a b c d w (by omega) (by omega) hab hcd))
 have hk3 : k = 3 := by omega
 have hb3 := bool3 hk3
 by_cases h17 : op = 17
 · subst h17
   have q1 : -9223372036854775808 ≤ a * c ∧ a * c ≤ 9223372036854775807 := by
     obtain rfl | rfl : a = 0 ∨ a = 1 := by omega
     · simp
     · simp; omega
   have q2 : -9223372036854775808 ≤ b * d ∧ b * d ≤ 9223372036854775807 := by
     obtain rfl | rfl : b = 0 ∨ b = 1 := by omega
     · simp
     · simp; omega
   exact rbin_land k a b c d w hf ec ed (wrap64_same _ q1) (wrap64_same _ q2)
 have h18 : op = 18 := by omega
 subst h18
 exact rbin_lor k a b c d (max a c) (max b d) w hf ec ed (by omega) (by omega)
theorem ref_binary : BinSpec 22 := by
 intro op k a b c d ha hb hc hd w
 refine Lib.hid ?_
 by_cases hg : binGood op k a b c d = true
 · have hg' := hg
   simp only [binGood, Bool.and_eq_true, decide_eq_true_eq] at hg'
   have q := ref_binary_good op k a b c d w ha hb hc hd hg'.1.1 hg'.1.2 hg'.2
   unfold binE binErr
   rw [if_pos hg, if_pos hg]
   exact q
 · unfold binE binErr
   rw [if_neg hg, if_neg hg]
   cases hf : fits2 op k
   · exact bin_fits op k a b c d w hf
   · by_cases hc1 : checkErr k a b = 0
     · exact bin_check2 op k a b c d w hf hc1 (by simpa using fun hd1 => hg (by simp [binGood, hf, hc1, hd1]))
     · exact bin_check1 op k a b c d w hf (by simpa using hc1)
end Go.Proofs.Ytgkhldbnljdeiaa
