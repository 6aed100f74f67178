/- LawPicked, LawDone3, LawDone4, UnaryMath, GlueA, GlueE, RngZT, RngK. -/
import Derived.Test.YtgkhldbnljdeiaaKRefHToRefQ
import Derived.Test.YtgkhldbnljdeiaaKLawDone2
import Derived.Test.YtgkhldbnljdeiaaKRefLToRngB
import Derived.Test.YtgkhldbnljdeiaaKRefRToRefT0
import Derived.Test.YtgkhldbnljdeiaaKShownToLawDone
import Derived.Test.YtgkhldbnljdeiaaKRefGToFramesA
import Derived.Test.YtgkhldbnljdeiaaKRefNToRefO
import Derived.Test.YtgkhldbnljdeiaaKSetSelfToRefB
set_option linter.unusedSimpArgs false
set_option linter.unusedVariables false
/- The contracts of the laws' own helpers picked and holds of layer 4. -/
namespace Go.Proofs.Ytgkhldbnljdeiaa
open Go.RowKit

def spanU (lo hi : Int) : Int := IntKind.u64.wrap (IntKind.u64.wrap (IntKind.u64.wrap hi - IntKind.u64.wrap lo) + 1)
def PickPost (lo hi : Int) (w : World) (e : Ending) (w' : World) : Prop := (∃ v : Int, e = .returned (.int .i64 v) ∧ lo ≤ v ∧ v ≤ hi) ∧ Below w.heap.size w w'

theorem span_zero (lo hi n : Int) (h : Ok64 lo hi) (hs : spanU lo hi = 0) : lo ≤ wrap64 n ∧ wrap64 n ≤ hi := by
  have h1 := h.le; have h2 := h.lo; have h3 := h.hi
  unfold spanU at hs
  simp only [IntKind.wrap_u64] at hs
  unfold wrap64
  omega
theorem span_some (lo hi : Int) (h : Ok64 lo hi) (hs : ¬ spanU lo hi = 0) : spanU lo hi = hi - lo + 1 := by
  have h1 := h.le; have h2 := h.lo; have h3 := h.hi
  unfold spanU at hs ⊢
  simp only [IntKind.wrap_u64] at hs ⊢
  omega

set_option maxHeartbeats 1000000 in
theorem picked_full (lo hi : Int) (n : Int) (w : World) (hs : (spanU lo hi == 0) = true) :
    Calls Try.prog 27 #[.agg #[.int .i64 lo, .int .i64 hi], .int .u64 n] w fun e w' => e = .returned (.int .i64 (wrap64 n)) ∧ Below w.heap.size w w' := by
  unfold spanU at hs
  go_enter Try.func27, Try.ntmps27
  go_wp2
  go_ret
  exact ⟨rfl, (Below.refl _ _).alloc (Nat.le_refl _) _⟩

set_option maxHeartbeats 1000000 in
theorem picked_part (lo hi : Int) (n : Int) (w : World) (hs : (spanU lo hi == 0) = false) (hs' : ¬ spanU lo hi = 0) :
    Calls Try.prog 27 #[.agg #[.int .i64 lo, .int .i64 hi], .int .u64 n] w fun e w' => e = .returned (.int .i64 (wrap64 (IntKind.u64.wrap (IntKind.u64.wrap lo + n.tmod (spanU lo hi))))) ∧ Below w.heap.size w w' := by
  unfold spanU at hs hs' ⊢
  go_enter Try.func27, Try.ntmps27
  go_wp2
  go_region
  go_wp2
  go_ret
  exact ⟨rfl, ((Below.refl _ _).alloc (Nat.le_refl _) _).drew⟩

theorem picked_in (lo hi n : Int) (h : Ok64 lo hi) (hn : 0 ≤ n) (hs : ¬ spanU lo hi = 0) : lo ≤ wrap64 (IntKind.u64.wrap (IntKind.u64.wrap lo + n.tmod (spanU lo hi))) ∧ wrap64 (IntKind.u64.wrap (IntKind.u64.wrap lo + n.tmod (spanU lo hi))) ≤ hi := by
  rw [span_some lo hi h hs]
  have h1 := h.le; have h2 := h.lo; have h3 := h.hi
  have e1 : n.tmod (hi - lo + 1) = n % (hi - lo + 1) := Int.tmod_eq_emod_of_nonneg hn
  have e2 := Int.emod_nonneg n (show hi - lo + 1 ≠ 0 from by omega)
  have e3 := Int.emod_lt_of_pos n (show 0 < hi - lo + 1 from by omega)
  rw [e1]
  generalize n % (hi - lo + 1) = r at *
  simp only [IntKind.wrap_u64]
  unfold wrap64
  omega

theorem picked_any (lo hi n : Int) (w : World) (h : Ok64 lo hi) (hn : 0 ≤ n) :
    Calls Try.prog 27 #[.agg #[.int .i64 lo, .int .i64 hi], .int .u64 n] w (PickPost lo hi w) := by
  by_cases hs : spanU lo hi = 0
  · exact (picked_full lo hi n w (by simpa using hs)).mono fun _ _ ⟨he, hb⟩ => ⟨⟨_, he, span_zero lo hi n h hs⟩, hb⟩
  · exact (picked_part lo hi n w (by simpa using hs) hs).mono fun _ _ ⟨he, hb⟩ => ⟨⟨_, he, picked_in lo hi n h hn hs⟩, hb⟩

def holdsS (op m n : Int) : Bool := if op = 11 then m == n else if op = 12 then m != n else if op = 13 then decide (m < n) else if op = 14 then decide (m ≤ n) else if op = 15 then decide (n < m) else decide (n ≤ m)

set_option maxHeartbeats 1000000 in
theorem holds_any (op m n : Int) (w : World) (h1 : 11 ≤ op) (h2 : op ≤ 16) :
    Calls Try.prog 30 #[.int .i64 op, .int .i64 m, .int .i64 n] w fun e w' => e = .returned (.bool (holdsS op m n)) ∧ w = w' := by
  obtain rfl | rfl | rfl | rfl | rfl | rfl : op = 11 ∨ op = 12 ∨ op = 13 ∨ op = 14 ∨ op = 15 ∨ op = 16 := by omega
  all_goals
    clear h1 h2
    go_enter Try.func30, Try.ntmps30
    go_wp2
    go_ret
    exact ⟨rfl, rfl⟩

end Go.Proofs.Ytgkhldbnljdeiaa

/- The contract of the laws' own helper done of layer 4: comparisons, and the whole. -/
namespace Go.Proofs.Ytgkhldbnljdeiaa
open Go.RowKit

set_option maxRecDepth 100000 in
set_option maxHeartbeats 1000000 in
theorem done_cmp (op k v w0 : Int) (w : World) (p : Bool) (n : Int) (hn : ∀ w, Hid (Calls Try.prog 49 #[.bool p] w fun e w' => e = .returned (.int .i64 n) ∧ w = w'))
    (hh : ∀ w, Hid (Calls Try.prog 30 #[.int .i64 op, .int .i64 v, .int .i64 w0] w fun e w' => e = .returned (.bool p) ∧ w = w'))
    (ho : op = 11 ∨ op = 12 ∨ op = 13 ∨ op = 14 ∨ op = 15 ∨ op = 16) : DoneAt op k v w0 n false false w := by
  unfold DoneAt
  rcases ho with rfl | rfl | rfl | rfl | rfl | rfl
  all_goals
    by_cases hk : k = 2
    all_goals
      go_enter Try.func28, Try.ntmps28
      go_wp2_with (first | (go_at_call 30; refine (hh _).out.mono ?_; rintro e w' ⟨rfl, rfl⟩) | (go_at_call 49; refine (hn _).out.mono ?_; rintro e w' ⟨rfl, rfl⟩))
      refine bodyPost_ret (v := .agg #[.int .i64 n, .bool false, .bool false]) (by simp [results, Try.results28, go_sem]) rfl ⟨rfl, ?_⟩
      exact (((Below.refl _ _).alloc (Nat.le_refl _) _).alloc (by simp) _)

end Go.Proofs.Ytgkhldbnljdeiaa

/- The contract of the laws' own helper done of layer 4, for all operators of a kind. -/
namespace Go.Proofs.Ytgkhldbnljdeiaa
open Go.RowKit RangesMath

theorem low8_eq (x : Int) : bits .and .i64 x 255 = x % 256 := by
  show IntKind.i64.wrap ((BitVec.ofInt 64 x &&& BitVec.ofInt 64 255).toNat : Int) = _
  rw [BitVec.toNat_and]
  have e : (BitVec.ofInt 64 255).toNat = 2 ^ 8 - 1 := by decide
  rw [e, Nat.and_two_pow_sub_one_eq_mod, BitVec.toNat_ofInt, IntKind.wrap_i64]
  omega

theorem low_big {k : Int} (h : (k == 2) = false) (x : Int) : low k x = x := by
  unfold low; rw [if_neg (by simpa using h)]
theorem low_sml {k : Int} (h : (k == 2) = true) (x : Int) : low k x = bits .and .i64 x 255 := by
  unfold low; rw [if_pos (by simpa using h), low8_eq]

theorem shift_amount (w0 : Int) (h1 : 0 ≤ w0) (h2 : w0 < 64) : min (IntKind.u64.wrap w0).toNat 64 = w0.toNat := by
  rw [IntKind.wrap_u64]; omega

/-- What done makes of two values, the number told where the pair neither traps nor is undefined. -/
def DoneIs (op k v w0 : Int) (w : World) : Prop := ∃ n : Int, DoneAt op k v w0 n (trapV op w0) (undefV op k v w0) w ∧ (trapV op w0 = false → undefV op k v w0 = false → n = doneV op k v w0)

theorem doneIs (op k v w0 n : Int) (t u : Bool) (w : World) (h : DoneAt op k v w0 n t u w) (ht : trapV op w0 = t) (hu : undefV op k v w0 = u) (hn : t = false → u = false → n = doneV op k v w0) : DoneIs op k v w0 w := by
  subst ht hu
  exact ⟨n, h, hn⟩

theorem two (k : Int) : (k == 2) = true ∨ (k == 2) = false := by cases (k == 2) <;> simp

theorem done_shift (k v w0 : Int) (w : World) : DoneIs 6 k v w0 w ∧ DoneIs 7 k v w0 w := by
  have ht : trapV 6 w0 = false ∧ trapV 7 w0 = false := by simp [trapV]
  rcases two k with hk | hk
  · have htop : top k = 7 := by simp at hk; simp [top, hk]
    have hu : ∀ b, (decide (w0 < 0) || decide (7 < w0)) = b → undefV 6 k v w0 = b ∧ undefV 7 k v w0 = b := fun b hb => by simp only [undefV, htop]; exact ⟨hb, hb⟩
    by_cases h1 : w0 < 0
    · have hb := hu true (by simp [h1])
      exact ⟨doneIs _ _ _ _ _ _ _ _ (done_shl_undef1_small k v w0 w hk (by simpa using h1)) ht.1 hb.1 (by simp), doneIs _ _ _ _ _ _ _ _ (done_shr_undef1_small k v w0 w hk (by simpa using h1)) ht.2 hb.2 (by simp)⟩
    · have h1' : decide (w0 < 0) = false := by simpa using h1
      by_cases h2 : 8 ≤ w0
      · have hb := hu true (by simp; omega)
        exact ⟨doneIs _ _ _ _ _ _ _ _ (done_shl_undef2_small k v w0 w hk h1' (by simpa using h2)) ht.1 hb.1 (by simp), doneIs _ _ _ _ _ _ _ _ (done_shr_undef2_small k v w0 w hk h1' (by simpa using h2)) ht.2 hb.2 (by simp)⟩
      · have hb := hu false (by simp; omega)
        have h2' : decide (8 ≤ w0) = false := by simpa using h2
        have e := shift_amount w0 (by omega) (by omega)
        exact ⟨doneIs _ _ _ _ _ _ _ _ (done_shl_small k v w0 w hk h1' h2') ht.1 hb.1 (fun _ _ => by rw [e]; exact (low_sml hk _).symm), doneIs _ _ _ _ _ _ _ _ (done_shr_small k v w0 w hk h1' h2') ht.2 hb.2 (fun _ _ => by rw [e]; exact (low_sml hk _).symm)⟩
  · have htop : top k = 63 := by simp at hk; simp [top, hk]
    have hu : ∀ b, (decide (w0 < 0) || decide (63 < w0)) = b → undefV 6 k v w0 = b ∧ undefV 7 k v w0 = b := fun b hb => by simp only [undefV, htop]; exact ⟨hb, hb⟩
    by_cases h1 : w0 < 0
    · have hb := hu true (by simp [h1])
      exact ⟨doneIs _ _ _ _ _ _ _ _ (done_shl_undef1_big k v w0 w hk (by simpa using h1)) ht.1 hb.1 (by simp), doneIs _ _ _ _ _ _ _ _ (done_shr_undef1_big k v w0 w hk (by simpa using h1)) ht.2 hb.2 (by simp)⟩
    · have h1' : decide (w0 < 0) = false := by simpa using h1
      by_cases h2 : 64 ≤ w0
      · have hb := hu true (by simp; omega)
        exact ⟨doneIs _ _ _ _ _ _ _ _ (done_shl_undef2_big k v w0 w hk h1' (by simpa using h2)) ht.1 hb.1 (by simp), doneIs _ _ _ _ _ _ _ _ (done_shr_undef2_big k v w0 w hk h1' (by simpa using h2)) ht.2 hb.2 (by simp)⟩
      · have hb := hu false (by simp; omega)
        have h2' : decide (64 ≤ w0) = false := by simpa using h2
        have e := shift_amount w0 (by omega) (by omega)
        exact ⟨doneIs _ _ _ _ _ _ _ _ (done_shl_big k v w0 w hk h1' h2') ht.1 hb.1 (fun _ _ => by rw [e]; exact (low_big hk _).symm), doneIs _ _ _ _ _ _ _ _ (done_shr_big k v w0 w hk h1' h2') ht.2 hb.2 (fun _ _ => by rw [e]; exact (low_big hk _).symm)⟩

theorem done_div (k v w0 : Int) (w : World) (hk12 : k = 1 ∨ k = 2) (hv : In64 v) : DoneIs 2 k v w0 w ∧ DoneIs 3 k v w0 w := by
  have v1 := hv.lo
  have v2 := hv.hi
  have ht : ∀ b, (w0 == 0) = b → trapV 2 w0 = b ∧ trapV 3 w0 = b := fun b hb => by simp [trapV, hb]
  have hu : ∀ b, (k == 1 && v == least && w0 == -1) = b → undefV 2 k v w0 = b ∧ undefV 3 k v w0 = b := fun b hb => by simp [undefV, hb]
  have hq : ¬ (v = least ∧ w0 = -1) → wrap64 (v.tdiv w0) = v.tdiv w0 := fun h => by
    have := tdiv_64 v w0 v1 v2 (by unfold least at *; omega)
    exact wrap64_same _ this
  by_cases h0 : w0 = 0
  · subst h0
    have hT := ht true rfl
    have hU := hu false (by simp)
    rcases hk12 with rfl | rfl
    · exact ⟨doneIs _ _ _ _ _ _ _ _ (done_quo_trap_big 1 v 0 w rfl rfl rfl) hT.1 hU.1 (by simp), doneIs _ _ _ _ _ _ _ _ (done_rem_trap_big 1 v 0 w rfl rfl rfl) hT.2 hU.2 (by simp)⟩
    · exact ⟨doneIs _ _ _ _ _ _ _ _ (done_quo_trap_small 2 v 0 w rfl rfl rfl) hT.1 hU.1 (by simp), doneIs _ _ _ _ _ _ _ _ (done_rem_trap_small 2 v 0 w rfl rfl rfl) hT.2 hU.2 (by simp)⟩
  · have h0' : (w0 == 0) = false := by simpa using h0
    have hT := ht false h0'
    rcases hk12 with rfl | rfl
    · by_cases h2 : v = least
      · have h2' : (v == -9223372036854775808) = true := by simpa using h2
        by_cases h3 : w0 = -1
        · have h3' : (w0 == -1) = true := by simpa using h3
          have hU := hu true (by simp [h2, h3])
          exact ⟨doneIs _ _ _ _ _ _ _ _ (done_quo_undef 1 v w0 w rfl h0' rfl h2' h3') hT.1 hU.1 (by simp), doneIs _ _ _ _ _ _ _ _ (done_rem_undef 1 v w0 w rfl h0' rfl h2' h3') hT.2 hU.2 (by simp)⟩
        · have h3' : (w0 == -1) = false := by simpa using h3
          have hU := hu false (by simp [h3])
          exact ⟨doneIs _ _ _ _ _ _ _ _ (done_quo_big2 1 v w0 w rfl h0' h0 rfl h2' h3') hT.1 hU.1 (fun _ _ => hq (by omega)), doneIs _ _ _ _ _ _ _ _ (done_rem_big2 1 v w0 w rfl h0' h0 rfl h2' h3') hT.2 hU.2 (fun _ _ => rfl)⟩
      · have h2' : (v == -9223372036854775808) = false := by simpa using h2
        have hU := hu false (by simp; intro h; exact absurd h h2)
        exact ⟨doneIs _ _ _ _ _ _ _ _ (done_quo_big1 1 v w0 w rfl h0' h0 rfl h2') hT.1 hU.1 (fun _ _ => hq (by omega)), doneIs _ _ _ _ _ _ _ _ (done_rem_big1 1 v w0 w rfl h0' h0 rfl h2') hT.2 hU.2 (fun _ _ => rfl)⟩
    · have hU := hu false rfl
      refine ⟨doneIs _ _ _ _ _ _ _ _ (done_quo_small 2 v w0 w rfl h0' h0 rfl) hT.1 hU.1 (fun _ _ => ?_), doneIs _ _ _ _ _ _ _ _ (done_rem_small 2 v w0 w rfl h0' h0 rfl) hT.2 hU.2 (fun _ _ => by show _ = low 2 (v.tmod w0); exact (low_sml rfl _).symm)⟩
      show bits .and .i64 (wrap64 (v.tdiv w0)) 255 = (v.tdiv w0) % 256
      rw [low8_eq]; unfold wrap64; omega

theorem done_any (op k v w0 : Int) (w : World) (hf : fitsB op k = true) (hv : In64 v) : DoneIs op k v w0 w := by
  simp only [fitsB, decide_eq_true_eq] at hf
  by_cases hc : 11 ≤ op ∧ op ≤ 16
  · have ho : op = 11 ∨ op = 12 ∨ op = 13 ∨ op = 14 ∨ op = 15 ∨ op = 16 := by omega
    refine doneIs _ _ _ _ _ _ _ _ (done_cmp op k v w0 w (holdsS op v w0) (if holdsS op v w0 then 1 else 0) (fun w => Lib.hid (law_number _ w)) (fun w => Lib.hid (holds_any op v w0 w hc.1 hc.2)) ho) (by simp [trapV]; omega) (by unfold undefV; rw [if_neg (by omega), if_neg (by omega)]) (fun _ _ => ?_)
    rcases ho with rfl | rfl | rfl | rfl | rfl | rfl <;> rfl
  · have hu : ∀ op', (op' = 1 ∨ op' = 4 ∨ op' = 5 ∨ op' = 8 ∨ op' = 9 ∨ op' = 10 ∨ op' = 17 ∨ op' = 18) → trapV op' w0 = false ∧ undefV op' k v w0 = false := by
      rintro op' (rfl | rfl | rfl | rfl | rfl | rfl | rfl | rfl) <;> simp [trapV, undefV]
    have gl : ∀ (op' n : Int), (op' = 1 ∨ op' = 4 ∨ op' = 5 ∨ op' = 8 ∨ op' = 9 ∨ op' = 10 ∨ op' = 17 ∨ op' = 18) → DoneAt op' k v w0 n false false w → n = doneV op' k v w0 → DoneIs op' k v w0 w := fun op' n ho hd hn => doneIs _ _ _ _ _ _ _ _ hd (hu op' ho).1 (hu op' ho).2 (fun _ _ => hn)
    obtain rfl | rfl | rfl | rfl | rfl | rfl | rfl | rfl | rfl | rfl | rfl | rfl : op = 1 ∨ op = 2 ∨ op = 3 ∨ op = 4 ∨ op = 5 ∨ op = 6 ∨ op = 7 ∨ op = 8 ∨ op = 9 ∨ op = 10 ∨ op = 17 ∨ op = 18 := by omega
    · rcases two k with hk | hk
      · exact gl 1 _ (by simp) (done_mul_small k v w0 w hk) (low_sml hk _).symm
      · exact gl 1 _ (by simp) (done_mul_big k v w0 w hk) (low_big hk _).symm
    · exact (done_div k v w0 w (by omega) hv).1
    · exact (done_div k v w0 w (by omega) hv).2
    · rcases two k with hk | hk
      · exact gl 4 _ (by simp) (done_add_small k v w0 w hk) (low_sml hk _).symm
      · exact gl 4 _ (by simp) (done_add_big k v w0 w hk) (low_big hk _).symm
    · rcases two k with hk | hk
      · exact gl 5 _ (by simp) (done_sub_small k v w0 w hk) (low_sml hk _).symm
      · exact gl 5 _ (by simp) (done_sub_big k v w0 w hk) (low_big hk _).symm
    · exact (done_shift k v w0 w).1
    · exact (done_shift k v w0 w).2
    · rcases two k with hk | hk
      · exact gl 8 _ (by simp) (done_and_small k v w0 w hk) (low_sml hk _).symm
      · exact gl 8 _ (by simp) (done_and_big k v w0 w hk) (low_big hk _).symm
    · rcases two k with hk | hk
      · exact gl 9 _ (by simp) (done_xor_small k v w0 w hk) (low_sml hk _).symm
      · exact gl 9 _ (by simp) (done_xor_big k v w0 w hk) (low_big hk _).symm
    · rcases two k with hk | hk
      · exact gl 10 _ (by simp) (done_or_small k v w0 w hk) (low_sml hk _).symm
      · exact gl 10 _ (by simp) (done_or_big k v w0 w hk) (low_big hk _).symm
    · rcases two k with hk | hk
      · exact gl 17 _ (by simp) (done_land_small k v w0 w hk) (low_sml hk _).symm
      · exact gl 17 _ (by simp) (done_land_big k v w0 w hk) (low_big hk _).symm
    · have hm : v < w0 ∨ w0 ≤ v := by omega
      rcases two k with hk | hk <;> rcases hm with hm | hm
      · exact gl 18 _ (by simp) (done_lor1_small k v w0 w hk hm) (by show _ = low k (max v w0); rw [Int.max_eq_right (by omega)]; exact (low_sml hk _).symm)
      · exact gl 18 _ (by simp) (done_lor2_small k v w0 w hk hm) (by show _ = low k (max v w0); rw [Int.max_eq_left (by omega)]; exact (low_sml hk _).symm)
      · exact gl 18 _ (by simp) (done_lor1_big k v w0 w hk hm) (by show _ = low k (max v w0); rw [Int.max_eq_right (by omega)]; exact (low_big hk _).symm)
      · exact gl 18 _ (by simp) (done_lor2_big k v w0 w hk hm) (by show _ = low k (max v w0); rw [Int.max_eq_left (by omega)]; exact (low_big hk _).symm)

end Go.Proofs.Ytgkhldbnljdeiaa

/- The plain arithmetic of the law RangesUnary: what Unary and ToSmall make of a range holds what they make of its values. -/
namespace Go.Proofs.Ytgkhldbnljdeiaa
open Go.RowKit RangesMath

theorem xor_ones (v : Int) (h1 : -9223372036854775808 ≤ v) (h2 : v ≤ 9223372036854775807) : bits .xor .i64 (-1) v = -1 - v := by
  show IntKind.i64.wrap ((BitVec.ofInt 64 (-1) ^^^ BitVec.ofInt 64 v).toNat : Int) = _
  have e : BitVec.ofInt 64 (-1) = BitVec.allOnes 64 := by decide
  rw [e, BitVec.allOnes_xor, BitVec.toNat_not, BitVec.toNat_ofInt, IntKind.wrap_i64]
  omega

theorem broughtS_fin (l h k : Int) (o : Bool) (ho : o = (RangesMath.out64 l || RangesMath.out64 h)) : broughtS l h o k = fin l h k := by
  subst ho
  unfold broughtS fin
  by_cases h1 : (RangesMath.out64 l || RangesMath.out64 h) = true
  · rw [if_pos h1, if_pos h1]; rfl
  · rw [if_neg h1, if_neg h1]
    by_cases h2 : k = 1
    · rw [if_pos h2, if_pos h2]
    · rw [if_neg h2, if_neg h2]
      by_cases h3 : l / 256 = h / 256
      · rw [if_pos h3, if_pos h3]
        unfold low8; rw [low8_eq, low8_eq]
      · rw [if_neg h3, if_neg h3]; rfl

/-- What Unary returns as its error. -/
theorem unaryS_err (op k a b : Int) : (unaryS op k a b).2.2 = 0 ∨ (unaryS op k a b).2.2 = 2 := by
  unfold unaryS
  by_cases h : fits1 op k = true ∧ checkErr k a b = 0
  · rw [if_pos h]; left; (repeat' split) <;> rfl
  · rw [if_neg h]; right; rfl

theorem unaryS_ok (op k a b : Int) (h : (unaryS op k a b).2.2 = 0) : fits1 op k = true ∧ checkErr k a b = 0 := by
  unfold unaryS at h
  by_cases hh : fits1 op k = true ∧ checkErr k a b = 0
  · exact hh
  · rw [if_neg hh] at h; simp at h

theorem check_parts {k a b : Int} (h : checkErr k a b = 0) : (k = 1 ∨ k = 2 ∨ k = 3) ∧ a ≤ b ∧ fullLow k ≤ a ∧ b ≤ fullHigh k := by
  unfold checkErr fullErr at h
  by_cases hk : k = 1 ∨ k = 2 ∨ k = 3
  · rw [if_pos hk] at h
    by_cases hc : (0 : Int) = 0 ∧ a ≤ b ∧ fullLow k ≤ a ∧ b ≤ fullHigh k
    · exact ⟨hk, hc.2⟩
    · rw [if_neg hc] at h; simp at h
  · rw [if_neg hk, if_neg (by simp)] at h; simp at h
theorem check_mk {k a b : Int} (hk : k = 1 ∨ k = 2 ∨ k = 3) (h1 : a ≤ b) (h2 : fullLow k ≤ a) (h3 : b ≤ fullHigh k) : checkErr k a b = 0 := by
  unfold checkErr fullErr; rw [if_pos hk, if_pos ⟨rfl, h1, h2, h3⟩]

/-- What a unary operator makes of a value: the number behind the kind. -/
def unV (op v : Int) : Int := if op = 1 then wrap64 (-v) else if op = 2 then wrap64 (1 - v) else bits .xor .i64 (-1) v

theorem unaryS_neg (k a b : Int) (hf : fits1 1 k = true) (hc : checkErr k a b = 0) : ((unaryS 1 k a b).1, (unaryS 1 k a b).2.1) = fin (0 - b) (0 - a) k := by
  have hp := check_parts hc
  have h64 := check_ok64 hc
  have l1 := h64.lo; have l2 := h64.hi; have l3 := h64.le
  unfold unaryS
  rw [if_pos ⟨hf, hc⟩, if_pos rfl]
  simp only
  by_cases ho : out64 (0 - a) = true
  · -- a is the least number
    have ha : a = -9223372036854775808 := by simp [out64] at ho; omega
    have hr : (out64 (0 - a) || out64 (0 - b) || out64 (0 - a) || out64 (0 - b)) = true := by rw [ho]; simp only [Bool.true_or]
    rw [hr]
    have hf' : (RangesMath.out64 (0 - b) || RangesMath.out64 (0 - a)) = true := by
      have : RangesMath.out64 (0 - a) = true := ho
      rw [this, Bool.or_true]
    unfold fin broughtS
    rw [if_pos hf', if_pos rfl]; rfl
  · have hb : out64 (0 - b) = false := by simp [out64] at ho ⊢; omega
    have ha : out64 (0 - a) = false := by simpa using ho
    rw [ha, hb]
    have w1 : wrap64 (0 - a) = 0 - a := by simp [out64] at ha; exact wrap64_same _ (by omega)
    have w2 : wrap64 (0 - b) = 0 - b := by simp [out64] at hb; exact wrap64_same _ (by omega)
    rw [w1, w2]
    have m1 : min (min (min (0 - a) (0 - b)) (0 - a)) (0 - b) = 0 - b := by omega
    have m2 : max (max (max (0 - a) (0 - b)) (0 - a)) (0 - b) = 0 - a := by omega
    rw [m1, m2]
    have := broughtS_fin (0 - b) (0 - a) k false (by
      have q1 : RangesMath.out64 (0 - b) = false := hb
      have q2 : RangesMath.out64 (0 - a) = false := ha
      rw [q1, q2]; rfl)
    simpa using this

theorem unary_holds (op k a b v : Int) (ho : op = 1 ∨ op = 2 ∨ op = 3) (h : (unaryS op k a b).2.2 = 0) (hv : Ok64 a b → a ≤ v ∧ v ≤ b) :
    checkErr k (unaryS op k a b).1 (unaryS op k a b).2.1 = 0 ∧ (unaryS op k a b).1 ≤ low k (unV op v) ∧ low k (unV op v) ≤ (unaryS op k a b).2.1 := by
  obtain ⟨hf, hc⟩ := unaryS_ok op k a b h
  have hp := check_parts hc
  have h64 := check_ok64 hc
  have l1 := h64.lo; have l2 := h64.hi; have l3 := h64.le
  have hv := hv h64
  have hf' := hf
  simp only [fits1, decide_eq_true_eq] at hf'
  rcases ho with rfl | rfl | rfl
  · have hk : k = 1 ∨ k = 2 := by omega
    have e := unaryS_neg k a b hf hc
    have e1 : (unaryS 1 k a b).1 = (fin (0 - b) (0 - a) k).1 := congrArg Prod.fst e
    have e2 : (unaryS 1 k a b).2.1 = (fin (0 - b) (0 - a) k).2 := congrArg Prod.snd e
    rw [e1, e2]
    have f1 := fin_holds (0 - b) (0 - a) k (-v) hk (by omega) (by omega)
    have f2 := fin_ok (0 - b) (0 - a) k hk (by omega)
    exact ⟨check_mk hp.1 f2.2.1 f2.1 f2.2.2, f1⟩
  · obtain rfl : k = 3 := by omega
    have e : unaryS 2 3 a b = (1 - b, 1 - a, 0) := by unfold unaryS; rw [if_pos ⟨hf, hc⟩]; rfl
    rw [e]
    have q := hp.2
    simp only [fullLow, fullHigh, Int.reduceEq, if_true, if_false] at q
    have hw : unV 2 v = 1 - v := by show wrap64 (1 - v) = _; unfold wrap64; omega
    rw [hw]
    refine ⟨check_mk (by simp) ?_ ?_ ?_, ?_, ?_⟩
    · simp only; omega
    · simp only [fullLow, Int.reduceEq, if_false]; omega
    · simp only [fullHigh, Int.reduceEq, if_true, if_false]; omega
    · show 1 - b ≤ 1 - v; omega
    · show 1 - v ≤ 1 - a; omega
  · have hx : unV 3 v = -1 - v := xor_ones v (by omega) (by omega)
    rw [hx]
    have hk : k = 1 ∨ k = 2 := by omega
    rcases hk with rfl | rfl
    · have e : unaryS 3 1 a b = (-1 - b, -1 - a, 0) := by unfold unaryS; rw [if_pos ⟨hf, hc⟩]; rfl
      rw [e]
      refine ⟨check_mk (by simp) ?_ ?_ ?_, ?_, ?_⟩
      · simp only; omega
      · simp only [fullLow, if_true]; omega
      · simp only [fullHigh, if_true]; omega
      · show -1 - b ≤ -1 - v; omega
      · show -1 - v ≤ -1 - a; omega
    · have e : unaryS 3 2 a b = (255 - b, 255 - a, 0) := by unfold unaryS; rw [if_pos ⟨hf, hc⟩]; rfl
      rw [e]
      have q := hp.2
      simp only [fullLow, fullHigh, Int.reduceEq, if_true, if_false] at q
      have hw : low 2 (-1 - v) = 255 - v := by show (-1 - v) % 256 = _; omega
      rw [hw]
      refine ⟨check_mk (by simp) ?_ ?_ ?_, ?_, ?_⟩
      · simp only; omega
      · simp only [fullLow, Int.reduceEq, if_false]; omega
      · simp only [fullHigh, Int.reduceEq, if_true, if_false]; omega
      · show 255 - b ≤ 255 - v; omega
      · show 255 - v ≤ 255 - a; omega

theorem toSmall_holds (a b v : Int) (h : (toSmallS a b).2.2 = 0) (hv : Ok64 a b → a ≤ v ∧ v ≤ b) :
    (toSmallS a b).1 ≤ bits .and .i64 v 255 ∧ bits .and .i64 v 255 ≤ (toSmallS a b).2.1 ∧ 0 ≤ (toSmallS a b).1 ∧ (toSmallS a b).2.1 ≤ 255 := by
  unfold toSmallS at *
  by_cases hc : checkErr 1 a b = 0
  · rw [if_pos hc]
    have h64 := check_ok64 hc
    have l1 := h64.lo; have l2 := h64.hi; have l3 := h64.le
    have hv := hv h64
    have e := broughtS_fin a b 2 false (by simp [RangesMath.out64]; omega)
    rw [e]
    have f1 := fin_holds a b 2 v (by simp) hv.1 hv.2
    have f2 := fin_ok a b 2 (by simp) (by omega)
    have w : wrap64 v = v := wrap64_same _ (by omega)
    rw [w] at f1
    have e2 : low 2 v = bits .and .i64 v 255 := low_sml rfl v
    rw [e2] at f1
    simp only [RangesMath.fullLow, RangesMath.fullHigh, Int.reduceEq, if_true, if_false] at f2
    exact ⟨f1.1, f1.2, f2.1, f2.2.2⟩
  · rw [if_neg hc] at h; simp at h

end Go.Proofs.Ytgkhldbnljdeiaa

/- What is asked of the program's functions of layer 4. -/
namespace Go.Proofs.Ytgkhldbnljdeiaa
open Go.RowKit RangesMath

def binGood (op k a b c d : Int) : Bool := fits2 op k && decide (checkErr k a b = 0) && decide (checkErr k c d = 0)
def binE (op k a b c d : Int) : RangesMath.Eff := if binGood op k a b c d then binS op k a b c d else ⟨0, 0, false, false, false⟩
def binErr (op k a b c d : Int) : Int := if binGood op k a b c d then 0 else 2
/-- Binary: the effect, or its error. -/
def BinSpec (f : Nat) : Prop := ∀ op k a b c d : Int, In64 a → In64 b → In64 c → In64 d → BinOut f op k a b c d (binE op k a b c d).lo (binE op k a b c d).hi (binE op k a b c d).some (binE op k a b c d).trap (binE op k a b c d).undef (binErr op k a b c d)
def UnaSpec (f : Nat) : Prop := ∀ op k a b : Int, In64 a → In64 b → UnaOut f op k a b (unaryS op k a b).1 (unaryS op k a b).2.1 (unaryS op k a b).2.2
def SmlSpec (f : Nat) : Prop := ∀ a b : Int, In64 a → In64 b → SmlOut f a b (toSmallS a b).1 (toSmallS a b).2.1 (toSmallS a b).2.2
def AssSpec (f : Nat) : Prop := ∀ (op k a b c d : Int) (r : Bool), In64 a → In64 b → In64 c → In64 d → ∀ w : World, Hid (Calls Try.prog f #[.int .i64 op, .int .i64 k, .agg #[.int .i64 a, .int .i64 b], .agg #[.int .i64 c, .int .i64 d], .bool r] w fun e w' => e = .returned (assR op k a b c d r) ∧ Below w.heap.size w w')
def joinS (a b c d : Int) : Int × Int × Int := if b < a ∨ d < c then (0, 0, 2) else (min a c, max b d, 0)
def JoinSpec (f : Nat) : Prop := ∀ a b c d : Int, In64 a → In64 b → In64 c → In64 d → PairOK f a b c d (joinS a b c d).1 (joinS a b c d).2.1 (joinS a b c d).2.2
def meetS (a b c d : Int) : Int × Int × Bool × Int := if b < a ∨ d < c then (0, 0, false, 2) else if max a c ≤ min b d then (max a c, min b d, true, 0) else (0, 0, false, 0)
def MeetSpec (f : Nat) : Prop := ∀ a b c d : Int, In64 a → In64 b → In64 c → In64 d → MeetOK f a b c d (meetS a b c d).1 (meetS a b c d).2.1 (meetS a b c d).2.2.1 (meetS a b c d).2.2.2

theorem in64_of {n : Int} (h : (Lit.int .i64 n).wf = true) : In64 n := ⟨(bounds_i64 h).1, (bounds_i64 h).2⟩

theorem good_parts {op k a b c d : Int} (h : binGood op k a b c d = true) : fitsB op k = true ∧ checkErr k a b = 0 ∧ checkErr k c d = 0 := by
  simp only [binGood, Bool.and_eq_true, decide_eq_true_eq] at h
  exact ⟨h.1.1, h.1.2, h.2⟩
theorem con_good {op k a b c d : Int} (h : binGood op k a b c d = true) : Contains op k a b c d (binS op k a b c d) := by
  obtain ⟨h1, h2, h3⟩ := good_parts h
  have p := check_parts h2
  have q := check_parts h3
  exact con_all op k a b c d h1 p.2.2.1 p.2.1 p.2.2.2 q.2.2.1 q.2.1 q.2.2.2


end Go.Proofs.Ytgkhldbnljdeiaa

/- The examples of layer 4 out of what is asked of the program's functions. -/
namespace Go.Proofs.Ytgkhldbnljdeiaa
open Go.RowKit RangesMath

theorem shown_glue (hb : BinSpec 21) (ha : AssSpec 25) : ShownOK' := by
  intro w
  have i : ∀ n : Int, -9223372036854775808 ≤ n → n ≤ 9223372036854775807 → In64 n := fun n h1 h2 => ⟨h1, h2⟩
  refine shown_of (fun w => ?_) (fun w => ?_) (fun w => ?_) (fun w => ?_) (fun w => ?_) w
  · exact (hb 4 1 1 3 10 20 (i _ (by omega) (by omega)) (i _ (by omega) (by omega)) (i _ (by omega) (by omega)) (i _ (by omega) (by omega)) w).out
  · exact (hb 5 2 5 6 10 10 (i _ (by omega) (by omega)) (i _ (by omega) (by omega)) (i _ (by omega) (by omega)) (i _ (by omega) (by omega)) w).out
  · exact (hb 2 1 (-7) 9 (-2) 3 (i _ (by omega) (by omega)) (i _ (by omega) (by omega)) (i _ (by omega) (by omega)) (i _ (by omega) (by omega)) w).out
  · exact (hb 3 1 (-5) 20 4 4 (i _ (by omega) (by omega)) (i _ (by omega) (by omega)) (i _ (by omega) (by omega)) (i _ (by omega) (by omega)) w).out
  · exact (ha 13 1 0 10 5 5 true (i _ (by omega) (by omega)) (i _ (by omega) (by omega)) (i _ (by omega) (by omega)) (i _ (by omega) (by omega)) w).out

end Go.Proofs.Ytgkhldbnljdeiaa

/- conjoined and filled of layer 4: the ranges around what &, | and ^ make of two ranges. -/
namespace Go.Proofs.Ytgkhldbnljdeiaa
open Go.RowKit RangesMath
attribute [local go_sem] World.setCell_self

/-- A call returns this range. -/
def RangeIs (x y : Int) (w : World) (e : Ending) (w' : World) : Prop := e = .returned (.agg #[.int .i64 x, .int .i64 y]) ∧ Below w.heap.size w w'
/-- Full of a kind. -/
def FullIs (k x y e : Int) : Prop := ∀ w, Hid (Calls Try.prog 11 #[.int .i64 k] w fun e' w' => e' = .returned (.tuple #[.agg #[.int .i64 x, .int .i64 y], .int .i64 e]) ∧ Below w.heap.size w w')

set_option maxRecDepth 100000 in
set_option maxHeartbeats 2000000 in
theorem pconj_lt (k a b c d : Int) (w : World) (h1 : decide (0 ≤ a) = true) (h2 : decide (0 ≤ c) = true) (h3 : b < d) :
    Calls Try.prog 85 #[.int .i64 k, .agg #[.int .i64 a, .int .i64 b], .agg #[.int .i64 c, .int .i64 d]] w (RangeIs 0 b w) := by
  go_enter Try.func85, Try.ntmps85
  go_wp2
  refine bodyPost_ret (v := .agg #[.int .i64 0, .int .i64 b]) (by simp [results, Try.results85, go_sem]) rfl ⟨rfl, ?_⟩
  exact (((Below.refl _ _).alloc (Nat.le_refl _) _).alloc (by simp) _).alloc (by simp; omega) _

set_option maxRecDepth 100000 in
set_option maxHeartbeats 2000000 in
theorem pconj_gt (k a b c d : Int) (w : World) (h1 : decide (0 ≤ a) = true) (h2 : decide (0 ≤ c) = true) (h3 : d < b) :
    Calls Try.prog 85 #[.int .i64 k, .agg #[.int .i64 a, .int .i64 b], .agg #[.int .i64 c, .int .i64 d]] w (RangeIs 0 d w) := by
  go_enter Try.func85, Try.ntmps85
  go_wp2
  refine bodyPost_ret (v := .agg #[.int .i64 0, .int .i64 d]) (by simp [results, Try.results85, go_sem]) rfl ⟨rfl, ?_⟩
  exact (((Below.refl _ _).alloc (Nat.le_refl _) _).alloc (by simp) _).alloc (by simp; omega) _

set_option maxRecDepth 100000 in
set_option maxHeartbeats 2000000 in
theorem pconj_eq (k a b c : Int) (w : World) (h1 : decide (0 ≤ a) = true) (h2 : decide (0 ≤ c) = true) :
    Calls Try.prog 85 #[.int .i64 k, .agg #[.int .i64 a, .int .i64 b], .agg #[.int .i64 c, .int .i64 b]] w (RangeIs 0 b w) := by
  go_enter Try.func85, Try.ntmps85
  go_wp2
  refine bodyPost_ret (v := .agg #[.int .i64 0, .int .i64 b]) (by simp [results, Try.results85, go_sem]) rfl ⟨rfl, ?_⟩
  exact (((Below.refl _ _).alloc (Nat.le_refl _) _).alloc (by simp) _).alloc (by simp; omega) _

set_option maxRecDepth 100000 in
set_option maxHeartbeats 2000000 in
theorem pconj_a (k a b c d : Int) (w : World) (h1 : decide (0 ≤ a) = true) (h2 : decide (0 ≤ c) = false) :
    Calls Try.prog 85 #[.int .i64 k, .agg #[.int .i64 a, .int .i64 b], .agg #[.int .i64 c, .int .i64 d]] w (RangeIs 0 b w) := by
  go_enter Try.func85, Try.ntmps85
  go_wp2
  refine bodyPost_ret (v := .agg #[.int .i64 0, .int .i64 b]) (by simp [results, Try.results85, go_sem]) rfl ⟨rfl, ?_⟩
  exact (((Below.refl _ _).alloc (Nat.le_refl _) _).alloc (by simp) _).alloc (by simp; omega) _

set_option maxRecDepth 100000 in
set_option maxHeartbeats 2000000 in
theorem pconj_c (k a b c d : Int) (w : World) (h1 : decide (0 ≤ a) = false) (h2 : decide (0 ≤ c) = true) :
    Calls Try.prog 85 #[.int .i64 k, .agg #[.int .i64 a, .int .i64 b], .agg #[.int .i64 c, .int .i64 d]] w (RangeIs 0 d w) := by
  go_enter Try.func85, Try.ntmps85
  go_wp2
  refine bodyPost_ret (v := .agg #[.int .i64 0, .int .i64 d]) (by simp [results, Try.results85, go_sem]) rfl ⟨rfl, ?_⟩
  exact (((Below.refl _ _).alloc (Nat.le_refl _) _).alloc (by simp) _).alloc (by simp; omega) _

set_option maxRecDepth 100000 in
set_option maxHeartbeats 2000000 in
theorem pconj_f (k a b c d x y e : Int) (w : World) (h1 : decide (0 ≤ a) = false) (h2 : decide (0 ≤ c) = false) (F : FullIs k x y e) :
    Calls Try.prog 85 #[.int .i64 k, .agg #[.int .i64 a, .int .i64 b], .agg #[.int .i64 c, .int .i64 d]] w (RangeIs x y w) := by
  go_enter Try.func85, Try.ntmps85
  go_wp2_with fail
  refine (F _).out.mono ?_
  rintro ee w1 ⟨rfl, hB1⟩
  have z1 : w.heap.size + 1 + 1 < w1.heap.size := by have := hB1.size; simp at this; omega
  have b1 : Below w.heap.size w w1 := ((((Below.refl _ _).alloc (Nat.le_refl _) _).alloc (by simp) _).alloc (by simp; omega) _).trans (hB1.mono (by simp; try omega))
  have c0 : w1.cell? ⟨w.heap.size + 1 + 1, 0, none⟩ = some (.int .i64 0) := cell_later hB1 (by go_simp)
  have c1 : w1.cell? ⟨w.heap.size + 1 + 1, 1, none⟩ = some (.int .i64 0) := cell_later hB1 (by go_simp)
  have f0 : w1.frozen? ⟨w.heap.size + 1 + 1, 0, none⟩ = false := keepFr hB1 (by simp; try omega) (by go_simp)
  have f1 : w1.frozen? ⟨w.heap.size + 1 + 1, 1, none⟩ = false := keepFr hB1 (by simp; try omega) (by go_simp)
  clear hB1
  go_wp2
  refine bodyPost_ret (v := .agg #[.int .i64 x, .int .i64 y]) (by simp [results, Try.results85, go_sem, c0, c1, z1]) rfl ⟨rfl, ?_⟩
  exact ((b1.setCell (by simp; try omega) _).setCell (by simp; try omega) _).alloc (by simp [World.setCell]; omega) _

set_option maxRecDepth 100000 in
set_option maxHeartbeats 2000000 in
theorem pfill_a (k l a b c d x y e : Int) (w : World) (h1 : decide (a < 0) = true) (F : FullIs k x y e) :
    Calls Try.prog 87 #[.int .i64 k, .int .i64 l, .agg #[.int .i64 a, .int .i64 b], .agg #[.int .i64 c, .int .i64 d]] w (RangeIs x y w) := by
  go_enter Try.func87, Try.ntmps87
  go_wp2_with fail
  refine (F _).out.mono ?_
  rintro ee w1 ⟨rfl, hB1⟩
  have z1 : w.heap.size + 1 + 1 < w1.heap.size := by have := hB1.size; simp at this; omega
  have b1 : Below w.heap.size w w1 := ((((Below.refl _ _).alloc (Nat.le_refl _) _).alloc (by simp) _).alloc (by simp; omega) _).trans (hB1.mono (by simp; try omega))
  have c0 : w1.cell? ⟨w.heap.size + 1 + 1, 0, none⟩ = some (.int .i64 0) := cell_later hB1 (by go_simp)
  have c1 : w1.cell? ⟨w.heap.size + 1 + 1, 1, none⟩ = some (.int .i64 0) := cell_later hB1 (by go_simp)
  have f0 : w1.frozen? ⟨w.heap.size + 1 + 1, 0, none⟩ = false := keepFr hB1 (by simp; try omega) (by go_simp)
  have f1 : w1.frozen? ⟨w.heap.size + 1 + 1, 1, none⟩ = false := keepFr hB1 (by simp; try omega) (by go_simp)
  clear hB1
  go_wp2
  refine bodyPost_ret (v := .agg #[.int .i64 x, .int .i64 y]) (by simp [results, Try.results87, go_sem, c0, c1, z1]) rfl ⟨rfl, ?_⟩
  exact ((b1.setCell (by simp; try omega) _).setCell (by simp; try omega) _).alloc (by simp [World.setCell]; omega) _

set_option maxRecDepth 100000 in
set_option maxHeartbeats 2000000 in
theorem pfill_c (k l a b c d x y e : Int) (w : World) (h1 : decide (a < 0) = false) (h2 : decide (c < 0) = true) (F : FullIs k x y e) :
    Calls Try.prog 87 #[.int .i64 k, .int .i64 l, .agg #[.int .i64 a, .int .i64 b], .agg #[.int .i64 c, .int .i64 d]] w (RangeIs x y w) := by
  go_enter Try.func87, Try.ntmps87
  go_wp2_with fail
  refine (F _).out.mono ?_
  rintro ee w1 ⟨rfl, hB1⟩
  have z1 : w.heap.size + 1 + 1 < w1.heap.size := by have := hB1.size; simp at this; omega
  have b1 : Below w.heap.size w w1 := ((((Below.refl _ _).alloc (Nat.le_refl _) _).alloc (by simp) _).alloc (by simp; omega) _).trans (hB1.mono (by simp; try omega))
  have c0 : w1.cell? ⟨w.heap.size + 1 + 1, 0, none⟩ = some (.int .i64 0) := cell_later hB1 (by go_simp)
  have c1 : w1.cell? ⟨w.heap.size + 1 + 1, 1, none⟩ = some (.int .i64 0) := cell_later hB1 (by go_simp)
  have f0 : w1.frozen? ⟨w.heap.size + 1 + 1, 0, none⟩ = false := keepFr hB1 (by simp; try omega) (by go_simp)
  have f1 : w1.frozen? ⟨w.heap.size + 1 + 1, 1, none⟩ = false := keepFr hB1 (by simp; try omega) (by go_simp)
  clear hB1
  go_wp2
  refine bodyPost_ret (v := .agg #[.int .i64 x, .int .i64 y]) (by simp [results, Try.results87, go_sem, c0, c1, z1]) rfl ⟨rfl, ?_⟩
  exact ((b1.setCell (by simp; try omega) _).setCell (by simp; try omega) _).alloc (by simp [World.setCell]; omega) _

set_option maxRecDepth 100000 in
set_option maxHeartbeats 2000000 in
theorem pfill_lt (k l a b c d n y : Int) (w : World) (h1 : decide (a < 0) = false) (h2 : decide (c < 0) = false) (h3 : b < d) (u : IntKind.u64.wrap d = d) (L : ∀ w, Hid (Calls Try.prog 113 #[.int .u64 d] w fun e w' => e = .returned (.int .i64 n) ∧ w = w')) (n0 : 0 ≤ n) (n1 : n ≤ 63) (hy : wrap64 (wrap64 (2 ^ n.toNat) - 1) = y) :
    Calls Try.prog 87 #[.int .i64 k, .int .i64 l, .agg #[.int .i64 a, .int .i64 b], .agg #[.int .i64 c, .int .i64 d]] w (RangeIs l y w) := by
  go_enter Try.func87, Try.ntmps87
  go_wp2_with fail
  refine (L _).out.mono ?_
  rintro ee w1 ⟨rfl, rfl⟩
  go_wp2
  refine bodyPost_ret (v := .agg #[.int .i64 l, .int .i64 y]) (by simp [results, Try.results87, go_sem]) rfl ⟨rfl, ?_⟩
  exact (((Below.refl _ _).alloc (Nat.le_refl _) _).alloc (by simp) _).alloc (by simp; omega) _

set_option maxRecDepth 100000 in
set_option maxHeartbeats 2000000 in
theorem pfill_ge (k l a b c d n y : Int) (w : World) (h1 : decide (a < 0) = false) (h2 : decide (c < 0) = false) (h3 : d ≤ b) (u : IntKind.u64.wrap b = b) (L : ∀ w, Hid (Calls Try.prog 113 #[.int .u64 b] w fun e w' => e = .returned (.int .i64 n) ∧ w = w')) (n0 : 0 ≤ n) (n1 : n ≤ 63) (hy : wrap64 (wrap64 (2 ^ n.toNat) - 1) = y) :
    Calls Try.prog 87 #[.int .i64 k, .int .i64 l, .agg #[.int .i64 a, .int .i64 b], .agg #[.int .i64 c, .int .i64 d]] w (RangeIs l y w) := by
  go_enter Try.func87, Try.ntmps87
  go_wp2_with fail
  refine (L _).out.mono ?_
  rintro ee w1 ⟨rfl, rfl⟩
  go_wp2
  refine bodyPost_ret (v := .agg #[.int .i64 l, .int .i64 y]) (by simp [results, Try.results87, go_sem]) rfl ⟨rfl, ?_⟩
  exact (((Below.refl _ _).alloc (Nat.le_refl _) _).alloc (by simp) _).alloc (by simp; omega) _

/-- The range around what & makes. -/
def conjS (k a b c d : Int) : Int × Int := if 0 ≤ a ∧ 0 ≤ c then (0, min b d) else if 0 ≤ a then (0, b) else if 0 ≤ c then (0, d) else (fullLow k, fullHigh k)
theorem pconj_any (k a b c d : Int) (w : World) : Calls Try.prog 85 #[.int .i64 k, .agg #[.int .i64 a, .int .i64 b], .agg #[.int .i64 c, .int .i64 d]] w (RangeIs (conjS k a b c d).1 (conjS k a b c d).2 w) := by
  by_cases ha : 0 ≤ a
  · by_cases hc : 0 ≤ c
    · have e : conjS k a b c d = (0, min b d) := by unfold conjS; rw [if_pos ⟨ha, hc⟩]
      rw [e]
      by_cases h1 : b < d
      · rw [show min b d = b by omega]
        exact pconj_lt k a b c d w (by simpa using ha) (by simpa using hc) h1
      by_cases h2 : d < b
      · rw [show min b d = d by omega]
        exact pconj_gt k a b c d w (by simpa using ha) (by simpa using hc) h2
      obtain rfl : d = b := by omega
      rw [show min d d = d by omega]
      exact pconj_eq k a d c w (by simpa using ha) (by simpa using hc)
    · have e : conjS k a b c d = (0, b) := by unfold conjS; rw [if_neg (by omega), if_pos ha]
      rw [e]
      exact pconj_a k a b c d w (by simpa using ha) (by simpa using hc)
  · by_cases hc : 0 ≤ c
    · have e : conjS k a b c d = (0, d) := by unfold conjS; rw [if_neg (by omega), if_neg ha, if_pos hc]
      rw [e]
      exact pconj_c k a b c d w (by simpa using ha) (by simpa using hc)
    · have e : conjS k a b c d = (fullLow k, fullHigh k) := by unfold conjS; rw [if_neg (by omega), if_neg ha, if_neg hc]
      rw [e]
      exact pconj_f k a b c d _ _ _ w (by simpa using ha) (by simpa using hc) (fun w => Lib.hid (pfull_any k w))

theorem ones_len (n : Int) : ones n = 2 ^ (lenS n).toNat - 1 := by
  unfold ones lenS
  split
  · rfl
  · rfl
theorem lenS_le (n : Int) (h : n ≤ 9223372036854775807) : 0 ≤ lenS n ∧ lenS n ≤ 63 := by
  unfold lenS
  split
  · omega
  · have : n.toNat.log2 < 63 := (Nat.log2_lt (by omega)).2 (by omega)
    omega
theorem shl_one (n : Int) (h0 : 0 ≤ n) (h1 : n ≤ 63) : wrap64 (wrap64 (2 ^ n.toNat) - 1) = 2 ^ n.toNat - 1 := by
  obtain ⟨m, rfl⟩ := Int.eq_ofNat_of_zero_le h0
  rw [Int.toNat_natCast]
  have p : (0 : Int) < 2 ^ m := Int.pow_pos (by decide)
  have q : (2 : Int) ^ m ≤ 2 ^ 63 := pow_mono m 63 (by omega)
  have q' : (2 : Int) ^ m ≤ 9223372036854775808 := q
  unfold wrap64
  omega
/-- The range around what | or ^ makes. -/
def fillS (k l a b c d : Int) : Int × Int := if a < 0 ∨ c < 0 then (fullLow k, fullHigh k) else (l, ones (max b d))
theorem pfill_any (k l a b c d : Int) (w : World) (hb : b ≤ 9223372036854775807) (hd : d ≤ 9223372036854775807) (h1 : a ≤ b) (h2 : c ≤ d) : Calls Try.prog 87 #[.int .i64 k, .int .i64 l, .agg #[.int .i64 a, .int .i64 b], .agg #[.int .i64 c, .int .i64 d]] w (RangeIs (fillS k l a b c d).1 (fillS k l a b c d).2 w) := by
  by_cases ha : a < 0
  · have e : fillS k l a b c d = (fullLow k, fullHigh k) := by unfold fillS; rw [if_pos (.inl ha)]
    rw [e]
    exact pfill_a k l a b c d _ _ _ w (by simpa using ha) (fun w => Lib.hid (pfull_any k w))
  by_cases hc : c < 0
  · have e : fillS k l a b c d = (fullLow k, fullHigh k) := by unfold fillS; rw [if_pos (.inr hc)]
    rw [e]
    exact pfill_c k l a b c d _ _ _ w (by simpa using ha) (by simpa using hc) (fun w => Lib.hid (pfull_any k w))
  have e : fillS k l a b c d = (l, ones (max b d)) := by unfold fillS; rw [if_neg (by omega)]
  rw [e]
  by_cases h : b < d
  · rw [show max b d = d by omega]
    have z := lenS_le d hd
    have s := shl_one _ z.1 z.2
    rw [← ones_len] at s
    exact pfill_lt k l a b c d _ _ w (by simpa using ha) (by simpa using hc) h (by rw [IntKind.wrap_u64]; omega) (fun w => Lib.hid (plen64 d w (by omega) (by omega))) z.1 z.2 s
  · rw [show max b d = b by omega]
    have z := lenS_le b hb
    have s := shl_one _ z.1 z.2
    rw [← ones_len] at s
    exact pfill_ge k l a b c d _ _ w (by simpa using ha) (by simpa using hc) (by omega) (by rw [IntKind.wrap_u64]; omega) (fun w => Lib.hid (plen64 b w (by omega) (by omega))) z.1 z.2 s

end Go.Proofs.Ytgkhldbnljdeiaa

/- What a region that draws its order keeps: cells that are read, cells that are written, and all below. -/
namespace Go.Proofs.Ytgkhldbnljdeiaa
open Go.RowKit

/-- The cells in fix hold their values; the cells in var are there and may be written; all lie in blocks that there are; below B all is as in w0. -/
structure Keeps (B : Nat) (fix : List (Nat × Nat × Value)) (var : List (Nat × Nat)) (w0 w : World) : Prop where
  fixed : ∀ p ∈ fix, w.cell? ⟨p.1, p.2.1, none⟩ = some p.2.2
  there : ∀ a ∈ var, w.cell? ⟨a.1, a.2, none⟩ = some (valAt w ⟨a.1, a.2, none⟩)
  froz : ∀ a ∈ var, w.frozen? ⟨a.1, a.2, none⟩ = false
  lt : ∀ a ∈ var, a.1 < w.heap.size
  base : B ≤ w.heap.size
  bl : Below B w0 w

theorem Keeps.later {B : Nat} {fix : List (Nat × Nat × Value)} {var : List (Nat × Nat)} {w0 w w' : World} (h : Keeps B fix var w0 w) (hb : Below w.heap.size w w') : Keeps B fix var w0 w' := by
  obtain ⟨h1, h2, h3, h4, h5, h6⟩ := h
  refine ⟨fun p hp => cell_later hb (h1 p hp), fun a ha => ?_, fun a ha => ?_, fun a ha => Nat.lt_of_lt_of_le (h4 a ha) hb.size, Nat.le_trans h5 hb.size, h6.trans (hb.mono h5)⟩
  · exact valAt_some (by rw [cell_later hb (h2 a ha)]; rfl)
  · rw [hb.frozen (p := ⟨a.1, a.2, none⟩) (h4 a ha)]; exact h3 a ha

/-- A store into one of the cells that may be written. -/
theorem Keeps.set {B : Nat} {fix : List (Nat × Nat × Value)} {var : List (Nat × Nat)} {w0 w : World} (h : Keeps B fix var w0 w) (g i : Nat) (v : Value) (hm : (g, i) ∈ var) (hB : B ≤ g) (hf : ∀ p ∈ fix, ¬ p.1 = g) : Keeps B fix var w0 (w.setCell ⟨g, i, none⟩ v) := by
  obtain ⟨h1, h2, h3, h4, h5, h6⟩ := h
  have hg := h2 _ hm
  generalize valAt w ⟨g, i, none⟩ = z at hg
  refine ⟨fun p hp => ?_, fun a ha => ?_, fun a ha => ?_, fun a ha => by simpa [World.setCell] using h4 a ha, by simpa [World.setCell] using h5, h6.setCell hB _⟩
  · have := hf p hp
    rw [World.cell?_setCell_far _ _ _ _ (by simpa using fun e => this e.symm)]; exact h1 p hp
  · apply valAt_some
    obtain ⟨v', hv'⟩ := cell?_setCell_some (w := w) (p := ⟨g, i, none⟩) (x := v) (q := ⟨a.1, a.2, none⟩) (h2 a ha)
    rw [hv']; rfl
  · have := h3 a ha
    go_simp

end Go.Proofs.Ytgkhldbnljdeiaa
