/- RefD3, RefE1, RefF1. -/
import Derived.Test.YtgkhldbnljdeiaaQRefD2
import Derived.Test.YtgkhldbnljdeiaaQRefZ1
import Derived.Test.YtgkhldbnljdeiaaQRefZ2
import Derived.Test.YtgkhldbnljdeiaaQRefP2
import Derived.Test.YtgkhldbnljdeiaaQLawOpsToRangesE
import Derived.Test.YtgkhldbnljdeiaaQRngZTToRefZ
import Derived.Test.YtgkhldbnljdeiaaQRefT3ToRefX
import Derived.Test.YtgkhldbnljdeiaaQRefC
set_option maxRecDepth 100000
set_option maxHeartbeats 4000000
set_option linter.unusedSimpArgs false
set_option linter.unusedVariables false
namespace Go.Proofs.Ytgkhldbnljdeiaa
open Go.RowKit
/-- A pair whose quotients can be made. -/
structure PrOK (p : RangesMath.Pr) : Prop where
 a : In64 p.a
 b : In64 p.b
 c : In64 p.c
 d : In64 p.d
 c0 : p.c ≠ 0
 d0 : p.d ≠ 0
 ok : (-9223372036854775808 < p.a ∧ -9223372036854775808 < p.b) ∨ (p.c ≠ -1 ∧ p.d ≠ -1)
theorem quot_same {v w : Int} (hv : In64 v) (hw : w ≠ 0) (h : -9223372036854775808 < v ∨ w ≠ -1) : wrap64 (v.tdiv w) = v.tdiv w := by
 apply wrap64_same
 by_cases h1 : w = -1
 · subst h1
   have := hv.lo; have := hv.hi
   have e : v.tdiv (-1) = -v := by simp
   rw [e]; omega
 · have := tdiv_range v w hv hw h1
   exact ⟨this.lo, this.hi⟩
theorem corners_pr (p : RangesMath.Pr) (h : PrOK p) (w : World) :
   Calls Try.prog 36 #[.int .i64 2, .agg #[.int .i64 p.a, .int .i64 p.b], .agg #[.int .i64 p.c, .int .i64 p.d]] w fun e w' => e = .returned (.agg #[.int .i64 p.lo, .int .i64 p.hi, .bool false]) ∧ Below w.heap.size w w' := by
 have g : ∀ {v w : Int}, In64 v → w ≠ 0 → (-9223372036854775808 < v ∨ w ≠ -1) → v.tdiv w = wrap64 (v.tdiv w) := fun hv hw h => (quot_same hv hw h).symm
 have hc := corners_div p.a p.b p.c p.d w _ _ _ _ h.c0 h.d0 (Lib.hid (g h.a h.c0 (h.ok.imp (·.1) (·.1)))) (Lib.hid (g h.a h.d0 (h.ok.imp (·.1) (·.2)))) (Lib.hid (g h.b h.c0 (h.ok.imp (·.2) (·.1)))) (Lib.hid (g h.b h.d0 (h.ok.imp (·.2) (·.2))))
 refine hc.mono fun e w' ⟨he, hb⟩ => ⟨?_, hb⟩
 rw [he]
 have e1 : min (min (min (p.a.tdiv p.c) (p.a.tdiv p.d)) (p.b.tdiv p.c)) (p.b.tdiv p.d) = p.lo := by unfold RangesMath.Pr.lo RangesMath.min4; omega
 have e2 : max (max (max (p.a.tdiv p.c) (p.a.tdiv p.d)) (p.b.tdiv p.c)) (p.b.tdiv p.d) = p.hi := by unfold RangesMath.Pr.hi RangesMath.max4; omega
 rw [e1, e2]
theorem pairs_ok (k a b c d : Int) (ha : In64 a) (hb : In64 b) (hc : In64 c) (hd : In64 d) (hab : a ≤ b) (hcd : c ≤ d) (hk : c < 0 → k = 1) : ∀ p ∈ RangesMath.pairsS k a b c d, PrOK p := by
 have a1 := ha.lo; have a2 := ha.hi; have b1 := hb.lo; have b2 := hb.hi; have c1 := hc.lo; have c2 := hc.hi; have d1 := hd.lo; have d2 := hd.hi
 intro p hp
 unfold RangesMath.pairsS at hp
 rcases List.mem_append.1 hp with hp | hp
 · by_cases h0 : c < 0
   · rw [if_pos h0] at hp
     have hk1 := hk h0
     by_cases hu : RangesMath.undefB k a c d = true
     · rw [if_pos hu] at hp
       rcases List.mem_append.1 hp with hp | hp
       · by_cases h1 : c < -1
         · rw [if_pos h1] at hp
           obtain rfl := List.mem_singleton.1 hp
           exact ⟨ha, hb, hc, ⟨by simp, by simp⟩, by simp; omega, by simp, Or.inr ⟨by simp; omega, by simp⟩⟩
         · rw [if_neg h1] at hp; simp at hp
       · by_cases h1 : RangesMath.least < b
         · rw [if_pos h1] at hp
           obtain rfl := List.mem_singleton.1 hp
           exact ⟨⟨by simp [RangesMath.least], by simp [RangesMath.least]⟩, hb, ⟨by simp, by simp⟩, ⟨by simp, by simp⟩, by simp, by simp, Or.inl ⟨by simp [RangesMath.least], h1⟩⟩
         · rw [if_neg h1] at hp; simp at hp
     · rw [if_neg hu] at hp
       obtain rfl := List.mem_singleton.1 hp
       simp only [RangesMath.undefB, RangesMath.least, hk1, Bool.and_eq_true, decide_eq_true_eq, beq_self_eq_true, true_and] at hu
       refine ⟨ha, hb, hc, ⟨by simp only; omega, by simp only; omega⟩, by simp only; omega, by simp only; omega, ?_⟩
       simp only
       omega
   · rw [if_neg h0] at hp; simp at hp
 · by_cases h0 : 0 < d
   · rw [if_pos h0] at hp
     obtain rfl := List.mem_singleton.1 hp
     exact ⟨ha, hb, ⟨by simp only; omega, by simp only; omega⟩, hd, by simp only; omega, by simp only; omega, Or.inr ⟨by simp only; omega, by simp only; omega⟩⟩
   · rw [if_neg h0] at hp; simp at hp
theorem parts_any (c d : Int) (w : World) (hcd : c ≤ d) : Calls Try.prog 63 #[.agg #[.int .i64 c, .int .i64 d]] w (PartsOut (partsS c d) w) := by
 unfold partsS
 by_cases hc : c < 0
 · rw [if_pos hc]
   by_cases hd : 0 < d
   · rw [if_pos hd, show min d (-1) = -1 by omega, show max c 1 = 1 by omega]
     exact parts_both c d w hc hd
   · rw [if_neg hd]
     by_cases h1 : d ≤ -1
     · rw [show min d (-1) = d by omega]
       exact parts_neg c d w hc h1
     · rw [show min d (-1) = -1 by omega]
       exact parts_neg0 c d w hc (by omega) (by simpa using hd)
 · rw [if_neg hc]
   by_cases hd : 0 < d
   · rw [if_pos hd]
     by_cases h1 : 1 ≤ c
     · rw [show max c 1 = c by omega]
       exact parts_pos c d w h1 hd
     · rw [show max c 1 = 1 by omega]
       exact parts_pos0 c d w (by simpa using hc) (by omega) hd
   · rw [if_neg hd]
     exact parts_none c d w (by simpa using hc) (by simpa using hd)
/-- rest on the parts of a divisor. -/
theorem rest_parts_any (a b c d : Int) (ha : In64 a) (hb : In64 b) (hc : In64 c) (hd : In64 d) (hcd : c ≤ d) (hne : partsS c d ≠ []) (g cap : Nat) (w : World) (hg : g < w.heap.size)
   (row : ∀ i v, (flat2 (partsS c d))[i]? = some v → w.cell? ⟨g, i, none⟩ = some v) (hcap : (partsS c d).length ≤ cap) :
   Calls Try.prog 64 #[.agg #[.int .i64 a, .int .i64 b], .slice (some ⟨g, 0, none⟩) (partsS c d).length cap] w fun e w' => e = .returned (.agg #[.int .i64 (RangesMath.restS a b (RangesMath.mS c d) (RangesMath.MS c d)).1, .int .i64 (RangesMath.restS a b (RangesMath.mS c d) (RangesMath.MS c d)).2]) ∧ Below w.heap.size w w' := by
 have sz : ∀ n : Int, In64 n → ∀ w, Hid (Calls Try.prog 108 #[.int .i64 n] w fun e w' => e = .returned (.int .u64 (n.natAbs : Int)) ∧ w = w') := fun n hn w => Lib.hid (size_any n w hn)
 have c1 := hc.lo; have c2 := hc.hi; have d1 := hd.lo; have d2 := hd.hi
 have hrs : ∀ L H, L = RangesMath.mS c d → H = RangesMath.MS c d → Hid (RestIs a b (a.natAbs : Int) (b.natAbs : Int) L H (RangesMath.restS a b (RangesMath.mS c d) (RangesMath.MS c d)).1 (RangesMath.restS a b (RangesMath.mS c d) (RangesMath.MS c d)).2) := by
   rintro L H rfl rfl
   exact Lib.hid rfl
 unfold partsS at hne row hcap ⊢
 by_cases h0 : c < 0
 · rw [if_pos h0] at hne row hcap ⊢
   by_cases h1 : 0 < d
   · rw [if_pos h1] at hne row hcap ⊢
     rw [show min d (-1) = -1 by omega, show max c 1 = 1 by omega] at row ⊢
     exact rest_2 a b c (-1) _ _ 1 d _ _ _ _ _ _ _ _ _ _ g cap w hg row hcap (sz c hc) (sz (-1) ⟨by simp, by simp⟩) (sz 1 ⟨by simp, by simp⟩) (sz d hd) (sz a ha) (sz b hb) rfl rfl rfl rfl
       (hrs _ _ (by unfold RangesMath.mS; rw [if_neg (by omega), if_neg (by omega)]; omega) (by unfold RangesMath.MS; omega)) (by omega) (by omega)
   · rw [if_neg h1] at hne row hcap ⊢
     rw [List.append_nil] at row hcap ⊢
     exact rest_1 a b c (min d (-1)) _ _ _ _ _ _ _ _ g cap w hg row hcap (sz c hc) (sz (min d (-1)) ⟨by omega, by omega⟩) (sz a ha) (sz b hb) rfl rfl
       (hrs _ _ (by unfold RangesMath.mS; rw [if_neg (by omega)]; split <;> omega) (by unfold RangesMath.MS; omega)) (by omega) (by omega)
 · rw [if_neg h0] at hne row hcap ⊢
   by_cases h1 : 0 < d
   · rw [if_pos h1] at hne row hcap ⊢
     rw [List.nil_append] at row hcap ⊢
     exact rest_1 a b (max c 1) d _ _ _ _ _ _ _ _ g cap w hg row hcap (sz (max c 1) ⟨by omega, by omega⟩) (sz d hd) (sz a ha) (sz b hb) rfl rfl
       (hrs _ _ (by unfold RangesMath.mS; split <;> (try split) <;> omega) (by unfold RangesMath.MS; omega)) (by omega) (by omega)
   · rw [if_neg h1] at hne; simp at hne
def EffOut (E : RangesMath.Eff) (w : World) (e : Ending) (w' : World) : Prop := e = .returned (.agg #[.int .i64 E.lo, .int .i64 E.hi, .bool E.some, .bool E.trap, .bool E.undef]) ∧ Below w.heap.size w w'
theorem divided_any (op k a b c d : Int) (w : World) (ho : op = 2 ∨ op = 3) (ha : In64 a) (hb : In64 b) (hc : In64 c) (hd : In64 d) (hab : a ≤ b) (hcd : c ≤ d) (hk : c < 0 → k = 1) :
   Calls Try.prog 38 #[.int .i64 op, .int .i64 k, .agg #[.int .i64 a, .int .i64 b], .agg #[.int .i64 c, .int .i64 d]] w (EffOut (RangesMath.binS op k a b c d) w) := by
 have a1 := ha.lo; have b1 := hb.lo
 have hq := pairs_all k a b c d a1
 have hpl : (partsS c d).length ≤ 2 := by unfold partsS; split <;> split <;> simp
 have hT : ∀ w, Hid (Calls Try.prog 62 #[.int .i64 0, .agg #[.int .i64 c, .int .i64 d]] w fun e w' => e = .returned (.bool (decide (c ≤ 0) && decide (0 ≤ d))) ∧ Below w.heap.size w w') := fun w => by
   have := in_any 0 c d w
   rw [Bool.decide_and] at this
   exact Lib.hid this
 have hin : ∀ (n x y : Int) (r : Bool), decide (x ≤ n ∧ n ≤ y) = r → ∀ w, Hid (Calls Try.prog 62 #[.int .i64 n, .agg #[.int .i64 x, .int .i64 y]] w fun e w' => e = .returned (.bool r) ∧ Below w.heap.size w w') := fun n x y r h w => by
   have := in_any n x y w
   rw [h] at this
   exact Lib.hid this
 have hU : ((k == 1) = false ∧ false = RangesMath.undefB k a c d) ∨ ((k == 1) = true ∧ (∀ w, Hid (Calls Try.prog 62 #[.int .i64 (-9223372036854775808), .agg #[.int .i64 a, .int .i64 b]] w fun e w' => e = .returned (.bool false) ∧ Below w.heap.size w w')) ∧ false = RangesMath.undefB k a c d) ∨
     ((k == 1) = true ∧ (∀ w, Hid (Calls Try.prog 62 #[.int .i64 (-9223372036854775808), .agg #[.int .i64 a, .int .i64 b]] w fun e w' => e = .returned (.bool true) ∧ Below w.heap.size w w')) ∧ (∀ w, Hid (Calls Try.prog 62 #[.int .i64 (-1), .agg #[.int .i64 c, .int .i64 d]] w fun e w' => e = .returned (.bool (RangesMath.undefB k a c d)) ∧ Below w.heap.size w w'))) := by
   cases hk1 : (k == 1)
   · exact .inl ⟨rfl, by simp [RangesMath.undefB, hk1]⟩
   · by_cases hl : a ≤ -9223372036854775808
     · refine .inr (.inr ⟨rfl, hin _ _ _ _ (by simp; omega), hin _ _ _ _ ?_⟩)
       simp [RangesMath.undefB, hk1, RangesMath.least, hl]
     · exact .inr (.inl ⟨rfl, hin _ _ _ _ (by simp; omega), by simp [RangesMath.undefB, hk1, RangesMath.least, hl]⟩)
 have W := fun x y S (hE : DivEnd op a b x y S (partsS c d) (RangesMath.pairsS k a b c d)) => divided_walk op k a b c d x y (decide (c ≤ 0) && decide (0 ≤ d)) (RangesMath.undefB k a c d) S w (partsS c d) (RangesMath.pairsS k a b c d) hpl (Lib.hid hq) hT hU (fun w => Lib.hid (parts_any c d w hcd)) (Lib.hid hE)
 by_cases hnil : RangesMath.pairsS k a b c d = []
 · have hw := W 0 0 false (.inl ⟨hnil, rfl, rfl, rfl⟩)
   have e : RangesMath.binS op k a b c d = ⟨0, 0, false, decide (c ≤ 0) && decide (0 ≤ d), RangesMath.undefB k a c d⟩ := by
     rcases ho with rfl | rfl <;> simp [RangesMath.binS, hnil]
   unfold EffOut
   rw [e]
   exact hw
 · rcases ho with rfl | rfl
   · have e : RangesMath.binS 2 k a b c d = ⟨RangesMath.hullLo (RangesMath.pairsS k a b c d), RangesMath.hullHi (RangesMath.pairsS k a b c d), true, decide (c ≤ 0) && decide (0 ≤ d), RangesMath.undefB k a c d⟩ := by simp [RangesMath.binS, hnil]
     unfold EffOut
     rw [e]
     exact W _ _ _ (.inr (.inr ⟨hnil, rfl, by simp, rfl, rfl, fun pr hpr wx => Lib.hid (corners_pr pr (pairs_ok k a b c d ha hb hc hd hab hcd hk pr hpr) wx)⟩))
   · have e : RangesMath.binS 3 k a b c d = ⟨(RangesMath.restS a b (RangesMath.mS c d) (RangesMath.MS c d)).1, (RangesMath.restS a b (RangesMath.mS c d) (RangesMath.MS c d)).2, true, decide (c ≤ 0) && decide (0 ≤ d), RangesMath.undefB k a c d⟩ := by simp [RangesMath.binS, hnil]
     unfold EffOut
     rw [e]
     refine W _ _ _ (.inr (.inl ⟨hnil, rfl, by simp, fun g cap wx hg hrow hcap => Lib.hid (rest_parts_any a b c d ha hb hc hd hcd ?_ g cap wx hg hrow hcap)⟩))
     intro h
     apply hnil
     rw [← hq, h]
     rfl
end Go.Proofs.Ytgkhldbnljdeiaa
namespace Go.Proofs.Ytgkhldbnljdeiaa
open Go.RowKit
theorem quot_in (a : Int) (n : Nat) (h0 : 0 ≤ a) (h1 : a ≤ 255) : 0 ≤ a / 2 ^ n ∧ a / 2 ^ n ≤ 255 := by
 have hp : (0 : Int) < 2 ^ n := by
   have := RangesMath.pow_mono 0 n (Nat.zero_le _)
   simp at this
   omega
 constructor
 · exact Int.ediv_nonneg h0 (Int.le_of_lt hp)
 · exact Int.le_trans (Int.ediv_le_self _ h0) h1
theorem moved_any (op k a b c d : Int) (w : World) (ho : op = 6 ∨ op = 7) (hk : k = 1 ∨ k = 2) (ha : In64 a) (hb : In64 b) (hc : In64 c) (hd : In64 d) (hab : a ≤ b) (hcd : c ≤ d) (hs : k = 2 → 0 ≤ a ∧ b ≤ 255) :
   Calls Try.prog 39 #[.int .i64 op, .int .i64 k, .agg #[.int .i64 a, .int .i64 b], .agg #[.int .i64 c, .int .i64 d]] w (EffOut (RangesMath.binS op k a b c d) w) := by
 have hkt : ((k == 2) = true ∧ RangesMath.top k = 7) ∨ ((k == 2) = false ∧ RangesMath.top k = 63) := by
   rcases hk with rfl | rfl
   · exact .inr ⟨rfl, rfl⟩
   · exact .inl ⟨rfl, rfl⟩
 have htop : 7 ≤ RangesMath.top k ∧ RangesMath.top k ≤ 63 := by rcases hkt with ⟨_, h⟩ | ⟨_, h⟩ <;> omega
 have hu : (decide (c < 0) = true ∧ (decide (c < 0) || decide (RangesMath.top k < d)) = true) ∨ (decide (c < 0) = false ∧ decide (RangesMath.top k < d) = (decide (c < 0) || decide (RangesMath.top k < d))) := by
   cases decide (c < 0)
   · exact .inr ⟨rfl, by simp⟩
   · exact .inl ⟨rfl, by simp⟩
 by_cases hm : max c 0 ≤ min d (RangesMath.top k)
 · have hM : ∀ w, Hid (Calls Try.prog 18 #[.agg #[.int .i64 c, .int .i64 d], .agg #[.int .i64 0, .int .i64 (RangesMath.top k)]] w fun e w' => e = .returned (.tuple #[.agg #[.int .i64 (max c 0), .int .i64 (min d (RangesMath.top k))], .bool true, .int .i64 0]) ∧ Below w.heap.size w w') := fun w => Lib.hid (meet_yes c d 0 (RangesMath.top k) w hcd (by omega) hm)
   have hB : ∀ l h o, ∀ w, Hid (Calls Try.prog 35 #[.agg #[.int .i64 l, .int .i64 h, .bool o], .int .i64 k] w fun e w' => e = .returned (.agg #[.int .i64 (broughtS l h o k).1, .int .i64 (broughtS l h o k).2]) ∧ Below w.heap.size w w') := fun l h o w => Lib.hid (brought_any l h k o w)
   obtain ⟨C, hC⟩ := Int.eq_ofNat_of_zero_le (show 0 ≤ max c 0 by omega)
   obtain ⟨D, hD⟩ := Int.eq_ofNat_of_zero_le (show 0 ≤ min d (RangesMath.top k) by omega)
   have hCn : (max c 0).toNat = C := by omega
   have hDn : (min d (RangesMath.top k)).toNat = D := by omega
   unfold EffOut
   rcases ho with rfl | rfl
   · have e : RangesMath.binS 6 k a b c d = ⟨(RangesMath.fin (RangesMath.min4 (a * 2 ^ C) (a * 2 ^ D) (b * 2 ^ C) (b * 2 ^ D)) (RangesMath.max4 (a * 2 ^ C) (a * 2 ^ D) (b * 2 ^ C) (b * 2 ^ D)) k).1, (RangesMath.fin (RangesMath.min4 (a * 2 ^ C) (a * 2 ^ D) (b * 2 ^ C) (b * 2 ^ D)) (RangesMath.max4 (a * 2 ^ C) (a * 2 ^ D) (b * 2 ^ C) (b * 2 ^ D)) k).2, true, false, decide (c < 0) || decide (RangesMath.top k < d)⟩ := by
       simp only [RangesMath.binS, hCn, hDn, if_pos hm]
       rfl
     rw [e, ← corner_fin]
     exact moved_some 6 k a b c d _ (max c 0) (min d (RangesMath.top k)) _ _ _ _ _ _ w hkt hu hM (by rw [hC, hD]; exact corners_shl_any a b C D ha hb (by omega) (by omega)) (hB _ _ _)
   · have hmn : ∀ n : Nat, (n : Int) ≤ 63 → min ((n : Int)).toNat 64 = n := fun n h => by omega
     have q := corners_shr a b C D w _ _ _ _ (by omega) (by omega) (by omega) (by omega) (Lib.hid rfl) (Lib.hid rfl) (Lib.hid rfl) (Lib.hid rfl)
     have hsh : ∀ w, Hid (Calls Try.prog 36 #[.int .i64 7, .agg #[.int .i64 a, .int .i64 b], .agg #[.int .i64 (max c 0), .int .i64 (min d (RangesMath.top k))]] w fun e w' => e = .returned (.agg #[.int .i64 (RangesMath.min4 (a / 2 ^ C) (a / 2 ^ D) (b / 2 ^ C) (b / 2 ^ D)), .int .i64 (RangesMath.max4 (a / 2 ^ C) (a / 2 ^ D) (b / 2 ^ C) (b / 2 ^ D)), .bool false]) ∧ Below w.heap.size w w') := fun w => by
       have q := corners_shr a b C D w _ _ _ _ (by omega) (by omega) (by omega) (by omega) (Lib.hid rfl) (Lib.hid rfl) (Lib.hid rfl) (Lib.hid rfl)
       rw [hmn C (by omega), hmn D (by omega)] at q
       rw [hC, hD]
       have e1 : min (min (min (a / 2 ^ C) (a / 2 ^ D)) (b / 2 ^ C)) (b / 2 ^ D) = RangesMath.min4 (a / 2 ^ C) (a / 2 ^ D) (b / 2 ^ C) (b / 2 ^ D) := by unfold RangesMath.min4; omega
       have e2 : max (max (max (a / 2 ^ C) (a / 2 ^ D)) (b / 2 ^ C)) (b / 2 ^ D) = RangesMath.max4 (a / 2 ^ C) (a / 2 ^ D) (b / 2 ^ C) (b / 2 ^ D) := by unfold RangesMath.max4; omega
       rw [e1, e2] at q
       exact Lib.hid q
     clear q
     have hbr : broughtS (RangesMath.min4 (a / 2 ^ C) (a / 2 ^ D) (b / 2 ^ C) (b / 2 ^ D)) (RangesMath.max4 (a / 2 ^ C) (a / 2 ^ D) (b / 2 ^ C) (b / 2 ^ D)) false k = (RangesMath.min4 (a / 2 ^ C) (a / 2 ^ D) (b / 2 ^ C) (b / 2 ^ D), RangesMath.max4 (a / 2 ^ C) (a / 2 ^ D) (b / 2 ^ C) (b / 2 ^ D)) := by
       rcases hk with rfl | rfl
       · rfl
       · obtain ⟨h0, h1⟩ := hs rfl
         have q0 := quot_in a C h0 (by omega)
         have q1 := quot_in a D h0 (by omega)
         have q2 := quot_in b C (by omega) h1
         have q3 := quot_in b D (by omega) h1
         generalize a / 2 ^ C = x0 at *
         generalize a / 2 ^ D = x1 at *
         generalize b / 2 ^ C = x2 at *
         generalize b / 2 ^ D = x3 at *
         have hmn : 0 ≤ RangesMath.min4 x0 x1 x2 x3 ∧ RangesMath.min4 x0 x1 x2 x3 ≤ 255 := by unfold RangesMath.min4; omega
         have hmx : 0 ≤ RangesMath.max4 x0 x1 x2 x3 ∧ RangesMath.max4 x0 x1 x2 x3 ≤ 255 := by unfold RangesMath.max4; omega
         generalize RangesMath.min4 x0 x1 x2 x3 = L at *
         generalize RangesMath.max4 x0 x1 x2 x3 = H at *
         rw [broughtS_fin L H 2 false (by symm; unfold RangesMath.out64; simp only [Bool.or_eq_false_iff, decide_eq_false_iff_not]; omega)]
         unfold RangesMath.fin
         rw [if_neg (by unfold RangesMath.out64; simp only [Bool.or_eq_true, decide_eq_true_eq]; omega), if_neg (by omega), if_pos (by omega)]
         simp only [Prod.mk.injEq]
         omega
     have e : RangesMath.binS 7 k a b c d = ⟨RangesMath.min4 (a / 2 ^ C) (a / 2 ^ D) (b / 2 ^ C) (b / 2 ^ D), RangesMath.max4 (a / 2 ^ C) (a / 2 ^ D) (b / 2 ^ C) (b / 2 ^ D), true, false, decide (c < 0) || decide (RangesMath.top k < d)⟩ := by
       simp only [RangesMath.binS, hCn, hDn, if_pos hm]
       rfl
     rw [e]
     have hB' := hB (RangesMath.min4 (a / 2 ^ C) (a / 2 ^ D) (b / 2 ^ C) (b / 2 ^ D)) (RangesMath.max4 (a / 2 ^ C) (a / 2 ^ D) (b / 2 ^ C) (b / 2 ^ D)) false
     rw [hbr] at hB'
     exact moved_some 7 k a b c d _ (max c 0) (min d (RangesMath.top k)) _ _ _ _ _ _ w hkt hu hM hsh hB'
 · have hM : ∀ w, Hid (Calls Try.prog 18 #[.agg #[.int .i64 c, .int .i64 d], .agg #[.int .i64 0, .int .i64 (RangesMath.top k)]] w fun e w' => e = .returned (.tuple #[.agg #[.int .i64 0, .int .i64 0], .bool false, .int .i64 0]) ∧ Below w.heap.size w w') := fun w => Lib.hid (meet_no c d 0 (RangesMath.top k) w hcd (by omega) (by omega))
   have e : RangesMath.binS op k a b c d = ⟨0, 0, false, false, decide (c < 0) || decide (RangesMath.top k < d)⟩ := by
     rcases ho with rfl | rfl <;> simp only [RangesMath.binS, if_neg hm] <;> rfl
   unfold EffOut
   rw [e]
   exact moved_none op k a b c d _ _ w hkt hu hM
end Go.Proofs.Ytgkhldbnljdeiaa
namespace Go.Proofs.Ytgkhldbnljdeiaa
open Go.RowKit
attribute [local go_sem] World.setCell_self
def BinR (x y : Int) (s t u : Bool) (r : Int) (w : World) (e : Ending) (w' : World) : Prop := e = .returned (.tuple #[.agg #[.int .i64 x, .int .i64 y, .bool s, .bool t, .bool u], .int .i64 r]) ∧ Below w.heap.size w w'
theorem bin_fits (op k a b c d : Int) (w : World) (hf : fits2 op k = false) :
   Calls Try.prog 22 #[.int .i64 op, .int .i64 k, .agg #[.int .i64 a, .int .i64 b], .agg #[.int .i64 c, .int .i64 d]] w (BinR 0 0 false false false 2 w) := by
 have F := fun w => Lib.hid (fits2_any op k w)
 rw [hf] at F
 go_enter Try.func22, Try.ntmps22
 go_wp2_with fail
 refine (F _).out.mono ?_
 rintro e w1 ⟨rfl, rfl⟩
 go_wp2
 refine bodyPost_ret (v := .tuple #[.agg #[.int .i64 0, .int .i64 0, .bool false, .bool false, .bool false], .int .i64 2]) (by simp [results, Try.results22, go_sem, *]) rfl ⟨rfl, (((Below.refl _ _).alloc (Nat.le_refl _) _).alloc (by simp) _).alloc (by simp; omega) _⟩
theorem bin_check1 (op k a b c d : Int) (w : World) (hf : fits2 op k = true) (hc : (checkErr k a b != 0) = true) :
   Calls Try.prog 22 #[.int .i64 op, .int .i64 k, .agg #[.int .i64 a, .int .i64 b], .agg #[.int .i64 c, .int .i64 d]] w (BinR 0 0 false false false 2 w) := by
 have F := fun w => Lib.hid (fits2_any op k w)
 rw [hf] at F
 have C1 := fun w => Lib.hid (check_any k a b w)
 generalize checkErr k a b = ce at *
 go_enter Try.func22, Try.ntmps22
 go_wp2_with fail
 refine (F _).out.mono ?_
 rintro e w1 ⟨rfl, rfl⟩
 go_wp2_with fail
 refine (C1 _).out.mono ?_
 rintro e w2 ⟨rfl, hB2⟩
 have I2 := (divPre w a b c d).later hB2
 have J2 := Lib.hid I2
 clear hB2
 obtain ⟨a0, a1, b0, b1, r0, r1, r2, r3, r4, fr0, fr1, fr2, fr3, fr4, s0, s1, s2, bl⟩ := I2
 go_wp2
 refine bodyPost_ret (v := .tuple #[.agg #[.int .i64 0, .int .i64 0, .bool false, .bool false, .bool false], .int .i64 2]) (by simp [results, Try.results22, go_sem, *]) rfl ⟨rfl, bl⟩
theorem bin_check2 (op k a b c d : Int) (w : World) (hf : fits2 op k = true) (hc : checkErr k a b = 0) (hd : (checkErr k c d != 0) = true) :
   Calls Try.prog 22 #[.int .i64 op, .int .i64 k, .agg #[.int .i64 a, .int .i64 b], .agg #[.int .i64 c, .int .i64 d]] w (BinR 0 0 false false false 2 w) := by
 have F := fun w => Lib.hid (fits2_any op k w)
 rw [hf] at F
 have C1 := fun w => Lib.hid (check_any k a b w)
 rw [hc] at C1
 have C2 := fun w => Lib.hid (check_any k c d w)
 generalize checkErr k c d = ce at *
 go_enter Try.func22, Try.ntmps22
 go_wp2_with fail
 refine (F _).out.mono ?_
 rintro e w1 ⟨rfl, rfl⟩
 go_wp2_with fail
 refine (C1 _).out.mono ?_
 rintro e w2 ⟨rfl, hB2⟩
 have I2 := (divPre w a b c d).later hB2
 have J2 := Lib.hid I2
 clear hB2
 obtain ⟨a0, a1, b0, b1, r0, r1, r2, r3, r4, fr0, fr1, fr2, fr3, fr4, s0, s1, s2, bl⟩ := I2
 go_wp2_with fail
 refine (C2 _).out.mono ?_
 clear a0 a1 b0 b1 r0 r1 r2 r3 r4 fr0 fr1 fr2 fr3 fr4 s0 s1 s2 bl
 rintro e w3 ⟨rfl, hB3⟩
 have I3 := J2.out.later hB3
 have J3 := Lib.hid I3
 clear hB3 J2
 obtain ⟨a0, a1, b0, b1, r0, r1, r2, r3, r4, fr0, fr1, fr2, fr3, fr4, s0, s1, s2, bl⟩ := I3
 go_wp2
 refine bodyPost_ret (v := .tuple #[.agg #[.int .i64 0, .int .i64 0, .bool false, .bool false, .bool false], .int .i64 2]) (by simp [results, Try.results22, go_sem, *]) rfl ⟨rfl, bl⟩
end Go.Proofs.Ytgkhldbnljdeiaa
