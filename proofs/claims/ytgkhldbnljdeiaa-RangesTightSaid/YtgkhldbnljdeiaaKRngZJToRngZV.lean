/- RngZJ, RngZK, RngZL, RngZM, RngZU, RngZV. -/
import Derived.Test.YtgkhldbnljdeiaaKRngZBToRngZE
import Derived.Test.YtgkhldbnljdeiaaKLawPickedToRngK
set_option linter.unusedSimpArgs false
set_option linter.unusedVariables false
/- Sums, differences and products of ranges of layer 4: what Binary makes of them is what binS says. -/
namespace Go.Proofs.Ytgkhldbnljdeiaa
open Go.RowKit RangesMath Go.MapKept

/-- Binary makes the effect that binS says. -/
def BinIs (op k a b c d : Int) : Prop := ∀ w, Calls Try.prog 21 #[.int .i64 op, .int .i64 k, .agg #[.int .i64 a, .int .i64 b], .agg #[.int .i64 c, .int .i64 d]] w fun e w' => e = .returned (.tuple #[.agg #[.int .i64 (binS op k a b c d).lo, .int .i64 (binS op k a b c d).hi, .bool (binS op k a b c d).some, .bool (binS op k a b c d).trap, .bool (binS op k a b c d).undef], .int .i64 0]) ∧ Below w.heap.size w w'

theorem check_byte {k a b : Int} (hk : k = 2) (h : checkErr k a b = 0) : 0 ≤ a ∧ b ≤ 255 := by
  subst hk
  have o := check_parts h
  have h1 := o.2.2.1
  have h2 := o.2.2.2
  exact ⟨by simpa [fullLow] using h1, by simpa [fullHigh] using h2⟩
theorem okB_of {k a b : Int} (h : checkErr k a b = 0) : okB k a b = true := by simp [okB, h]

theorem bin_add (k a b c d : Int) (hk : k = 1 ∨ k = 2) (h1 : checkErr k a b = 0) (h2 : checkErr k c d = 0) : BinIs 4 k a b c d := by
  intro w
  have o1 := check_ok64 h1
  have o2 := check_ok64 h2
  have p1 := o1.le
  have p2 := o1.lo
  have p3 := o1.hi
  have q1 := o2.le
  have q2 := o2.lo
  have q3 := o2.hi
  have C := calc_ok k 99 (fun x y => x + y) [⟨a, b, c, d⟩] (a + c) (b + d) (by simp) (by simp) ent_sum (sum_fn _ (by simp; omega)) (by simp [endsTo, cornersOf, minTo]; omega) (by simp [endsTo, cornersOf, maxTo]; omega)
    (by rcases hk with h | h; exact .inl h; have := check_byte h h1; have := check_byte h h2; exact .inr ⟨h, by omega, by omega, by omega, by omega⟩)
  refine binary_arith 4 k a b c d _ _ true false false hk (by omega) (fun w => arith_eff 4 k a b c d _ _ true false false 98 3 (fun n => rfl) ent_a4 ?_ w) (okB_of h1) (okB_of h2) w
  intro kb w hkb hk
  exact parith_4 k a b c d _ _ kb w hkb hk (Lib.hid (calc1_of C))

theorem bin_sub (k a b c d : Int) (hk : k = 1 ∨ k = 2) (h1 : checkErr k a b = 0) (h2 : checkErr k c d = 0) : BinIs 5 k a b c d := by
  intro w
  have o1 := check_ok64 h1
  have o2 := check_ok64 h2
  have p1 := o1.le
  have p2 := o1.lo
  have p3 := o1.hi
  have q1 := o2.le
  have q2 := o2.lo
  have q3 := o2.hi
  have C := calc_ok k 52 (fun x y => x - y) [⟨a, b, c, d⟩] (a - d) (b - c) (by simp) (by simp) ent_difference (difference_fn _ (by simp; omega)) (by simp [endsTo, cornersOf, minTo]; omega) (by simp [endsTo, cornersOf, maxTo]; omega)
    (by rcases hk with h | h; exact .inl h; have := check_byte h h1; have := check_byte h h2; exact .inr ⟨h, by omega, by omega, by omega, by omega⟩)
  refine binary_arith 5 k a b c d _ _ true false false hk (by omega) (fun w => arith_eff 5 k a b c d _ _ true false false 100 4 (fun n => rfl) ent_a5 ?_ w) (okB_of h1) (okB_of h2) w
  intro kb w hkb hk
  exact parith_5 k a b c d _ _ kb w hkb hk (Lib.hid (calc1_of C))

theorem mul_byte {u v : Int} (h1 : 0 ≤ u) (h2 : u ≤ 255) (h3 : 0 ≤ v) (h4 : v ≤ 255) : 0 ≤ u * v ∧ u * v ≤ 65025 := by
  have e := Int.mul_nonneg h1 h3
  have f := Int.mul_le_mul h2 h4 h3 (by omega)
  omega

theorem bin_mul (k a b c d : Int) (hk : k = 1 ∨ k = 2) (h1 : checkErr k a b = 0) (h2 : checkErr k c d = 0) : BinIs 1 k a b c d := by
  intro w
  have o1 := check_ok64 h1
  have o2 := check_ok64 h2
  have p1 := o1.le
  have p2 := o1.lo
  have p3 := o1.hi
  have q1 := o2.le
  have q2 := o2.lo
  have q3 := o2.hi
  have C := calc_ok k 91 (fun x y => x * y) [⟨a, b, c, d⟩] (min4 (a * c) (a * d) (b * c) (b * d)) (max4 (a * c) (a * d) (b * c) (b * d)) (by simp) (by simp) ent_product (product_fn _ (by simp; omega)) (by simp [endsTo, cornersOf, minTo, min4]; try omega) (by simp [endsTo, cornersOf, maxTo, max4]; try omega)
    (by
      rcases hk with h | h
      · exact .inl h
      have x := check_byte h h1
      have y := check_byte h h2
      have m1 := mul_byte (u := a) (v := c) (by omega) (by omega) (by omega) (by omega)
      have m2 := mul_byte (u := a) (v := d) (by omega) (by omega) (by omega) (by omega)
      have m3 := mul_byte (u := b) (v := c) (by omega) (by omega) (by omega) (by omega)
      have m4 := mul_byte (u := b) (v := d) (by omega) (by omega) (by omega) (by omega)
      exact .inr ⟨h, by unfold min4; omega, by unfold min4; omega, by unfold max4; omega, by unfold max4; omega⟩)
  refine binary_arith 1 k a b c d _ _ true false false hk (by omega) (fun w => arith_eff 1 k a b c d _ _ true false false 89 0 (fun n => rfl) ent_a1 ?_ w) (okB_of h1) (okB_of h2) w
  intro kb w hkb hk
  exact parith_1 k a b c d _ _ kb w hkb hk (Lib.hid (calc1_of C))

end Go.Proofs.Ytgkhldbnljdeiaa

/- The pairs that have a quotient: the parts of the program, and those of binS, make the same range. -/
namespace Go.Proofs.Ytgkhldbnljdeiaa
open Go.RowKit RangesMath Go.MapKept

theorem divL_eq (a b c d : Int) (ha : Ok64 a b) (hc : Ok64 c d) : divL a b c d = (if c ≤ -2 then [⟨a, b, c, min d (-2)⟩] else []) ++ (if max a (-9223372036854775807) ≤ b ∧ c ≤ -1 ∧ -1 ≤ d then [⟨max a (-9223372036854775807), b, -1, -1⟩] else []) ++ (if 1 ≤ d then [⟨a, b, max c 1, d⟩] else []) := by
  have p1 := ha.le
  have p2 := ha.lo
  have p3 := ha.hi
  have q1 := hc.le
  have q2 := hc.lo
  have q3 := hc.hi
  have e1 : comS a b (-9223372036854775808) 9223372036854775807 = (a, b, true) := by
    unfold comS
    rw [if_pos (by omega), show max a (-9223372036854775808) = a by omega, show min b 9223372036854775807 = b by omega]
  have e2 : comS c d (-9223372036854775808) (-2) = if c ≤ -2 then (c, min d (-2), true) else (0, 0, false) := by
    unfold comS
    rw [show max c (-9223372036854775808) = c by omega]
    by_cases h : c ≤ -2
    · rw [if_pos (by omega), if_pos h]
    · rw [if_neg (by omega), if_neg h]
  have e3 : comS a b (-9223372036854775807) 9223372036854775807 = if max a (-9223372036854775807) ≤ b then (max a (-9223372036854775807), b, true) else (0, 0, false) := by
    unfold comS
    rw [show min b 9223372036854775807 = b by omega]
  have e4 : comS c d (-1) (-1) = if c ≤ -1 ∧ -1 ≤ d then (-1, -1, true) else (0, 0, false) := by
    unfold comS
    by_cases h : c ≤ -1 ∧ -1 ≤ d
    · rw [if_pos (by omega), if_pos h, show max c (-1) = -1 by omega, show min d (-1) = -1 by omega]
    · rw [if_neg (by omega), if_neg h]
  have e5 : comS c d 1 9223372036854775807 = if 1 ≤ d then (max c 1, d, true) else (0, 0, false) := by
    unfold comS
    rw [show min d 9223372036854775807 = d by omega]
    by_cases h : 1 ≤ d
    · rw [if_pos (by omega), if_pos h]
    · rw [if_neg (by omega), if_neg h]
  unfold divL optS
  rw [e1, e2, e3, e4, e5]
  by_cases h1 : c ≤ -2 <;> by_cases h2 : max a (-9223372036854775807) ≤ b <;> by_cases h3 : c ≤ -1 ∧ -1 ≤ d <;> by_cases h4 : 1 ≤ d <;> simp only [h1, h2, h3, h4, if_true, if_false, Bool.and_true, Bool.and_false, true_and, false_and, and_self, and_true, and_false] <;> rfl

theorem minTo_hull (ps : List Pr) (h0 : 0 < ps.length) (h3 : ps.length ≤ 3) : minTo (endsTo (fun x y => x.tdiv y) ps ps.length) (4 * ps.length - 1) = hullLo ps ∧ maxTo (endsTo (fun x y => x.tdiv y) ps ps.length) (4 * ps.length - 1) = hullHi ps := by
  match ps, h0, h3 with
  | [p], _, _ => 
    refine ⟨?_, ?_⟩
    · simp [endsTo, cornersOf, minTo, hullLo, Pr.lo, min4]; try omega
    · simp [endsTo, cornersOf, maxTo, hullHi, Pr.hi, max4]; try omega
  | [p, q], _, _ => 
    refine ⟨?_, ?_⟩
    · simp [endsTo, cornersOf, minTo, hullLo, Pr.lo, min4]; try omega
    · simp [endsTo, cornersOf, maxTo, hullHi, Pr.hi, max4]; try omega
  | [p, q, r], _, _ => 
    refine ⟨?_, ?_⟩
    · simp [endsTo, cornersOf, minTo, hullLo, Pr.lo, min4]; try omega
    · simp [endsTo, cornersOf, maxTo, hullHi, Pr.hi, max4]; try omega
  | _ :: _ :: _ :: _ :: _, _, h3 => simp at h3

theorem quo_in (u z : Int) (h1 : -9223372036854775808 ≤ u) (h2 : u ≤ 9223372036854775807) (hz : z ≠ 0) (h : -9223372036854775807 ≤ u ∨ z ≠ -1) : -9223372036854775808 ≤ u.tdiv z ∧ u.tdiv z ≤ 9223372036854775807 := by
  have e : (u.tdiv z).natAbs = u.natAbs / z.natAbs := Int.natAbs_tdiv u z
  have f := Nat.div_le_self u.natAbs z.natAbs
  by_cases hu : u = -9223372036854775808
  · subst hu
    by_cases h1' : z = 1
    · subst h1'
      rw [Int.tdiv_one]
      omega
    · have g := Nat.div_le_div_left (a := Int.natAbs (-9223372036854775808)) (show 2 ≤ z.natAbs by omega) (by omega)
      have g2 : Int.natAbs (-9223372036854775808) / 2 = 4611686018427387904 := by decide
      omega
  · omega

theorem mid_hull (a b c : Int) (hab : a ≤ b) (hc : c ≤ -2) : min (Pr.lo ⟨a, b, c, -2⟩) (Pr.lo ⟨a, b, -1, -1⟩) = Pr.lo ⟨a, b, c, -1⟩ ∧ max (Pr.hi ⟨a, b, c, -2⟩) (Pr.hi ⟨a, b, -1, -1⟩) = Pr.hi ⟨a, b, c, -1⟩ := by
  have e1 := tdiv_corners a b c (-1) a (-2) (by omega) (by omega) (by omega) (by omega) (by omega)
  have e2 := tdiv_corners a b c (-1) b (-2) (by omega) (by omega) (by omega) (by omega) (by omega)
  simp only [Pr.lo, Pr.hi, min4, max4]
  generalize a.tdiv (-2) = x1 at *
  generalize b.tdiv (-2) = x2 at *
  generalize a.tdiv c = x3 at *
  generalize b.tdiv c = x4 at *
  generalize a.tdiv (-1) = x5 at *
  generalize b.tdiv (-1) = x6 at *
  clear hab hc
  refine ⟨by omega, by omega⟩

theorem hull_eq (k a b c d : Int) (hk : k = 1 ∨ k = 2 ∧ 0 ≤ c) (ha : Ok64 a b) (hc : Ok64 c d) :
    (divL a b c d = [] ↔ pairsS k a b c d = []) ∧ hullLo (divL a b c d) = hullLo (pairsS k a b c d) ∧ hullHi (divL a b c d) = hullHi (pairsS k a b c d) := by
  rw [divL_eq a b c d ha hc]
  have p1 := ha.le
  have p2 := ha.lo
  have p3 := ha.hi
  have q1 := hc.le
  by_cases h0 : c < 0
  · have hk1 : k = 1 := by omega
    subst hk1
    by_cases hu : undefB 1 a c d = true
    · have hu' : a = -9223372036854775808 ∧ c ≤ -1 ∧ -1 ≤ d := by simp [undefB, least] at hu; omega
      have el : (if c ≤ -2 then [(⟨a, b, c, min d (-2)⟩ : Pr)] else []) ++ (if max a (-9223372036854775807) ≤ b ∧ c ≤ -1 ∧ -1 ≤ d then [⟨max a (-9223372036854775807), b, -1, -1⟩] else []) ++ (if 1 ≤ d then [⟨a, b, max c 1, d⟩] else []) = pairsS 1 a b c d := by
        unfold pairsS
        rw [if_pos h0, if_pos hu, show min d (-2) = -2 by omega, show max a (-9223372036854775807) = -9223372036854775807 by omega]
        have i1 : (c ≤ -2) = (c < -1) := by apply propext; omega
        have i2 : (-9223372036854775807 ≤ b ∧ c ≤ -1 ∧ -1 ≤ d) = (least < b) := by apply propext; simp only [least]; omega
        have i3 : (1 ≤ d) = (0 < d) := by apply propext; omega
        simp only [i1, i2, i3]
        rfl
      rw [el]
      exact ⟨Iff.rfl, rfl, rfl⟩
    · have hu' : ¬ (a = -9223372036854775808 ∧ -1 ≤ d) := by
        intro h
        apply hu
        simp [undefB, least]
        omega
      unfold pairsS
      rw [if_pos h0, if_neg hu]
      have i3 : (1 ≤ d) = (0 < d) := by apply propext; omega
      simp only [i3]
      by_cases hd : -1 ≤ d
      · rw [show min d (-1) = -1 by omega, if_pos (show max a (-9223372036854775807) ≤ b ∧ c ≤ -1 ∧ -1 ≤ d by omega), show max a (-9223372036854775807) = a by omega, show min d (-2) = -2 by omega]
        by_cases h2 : c ≤ -2
        · rw [if_pos h2]
          have M := mid_hull a b c (by omega) (by omega)
          by_cases h3 : 0 < d
          · rw [if_pos h3]
            refine ⟨by simp, ?_, ?_⟩
            · show min (Pr.lo _) (min (Pr.lo _) (Pr.lo _)) = min (Pr.lo _) (Pr.lo _)
              rw [← M.1]; omega
            · show max (Pr.hi _) (max (Pr.hi _) (Pr.hi _)) = max (Pr.hi _) (Pr.hi _)
              rw [← M.2]; omega
          · rw [if_neg h3]
            exact ⟨by simp, M.1, M.2⟩
        · rw [if_neg h2, show c = -1 by omega]
          simp
      · rw [show min d (-1) = d by omega, if_neg (show ¬ (max a (-9223372036854775807) ≤ b ∧ c ≤ -1 ∧ -1 ≤ d) by omega), show min d (-2) = d by omega, if_pos (show c ≤ -2 by omega)]
        simp
  · unfold pairsS
    rw [if_neg h0, if_neg (show ¬ c ≤ -2 by omega), if_neg (show ¬ (max a (-9223372036854775807) ≤ b ∧ c ≤ -1 ∧ -1 ≤ d) by omega)]
    have i3 : (1 ≤ d) = (0 < d) := by apply propext; omega
    simp only [i3]
    exact ⟨Iff.rfl, rfl, rfl⟩

end Go.Proofs.Ytgkhldbnljdeiaa

/- Quotients and rests of ranges of layer 4: what Binary makes of them is what binS says. -/
namespace Go.Proofs.Ytgkhldbnljdeiaa
open Go.RowKit RangesMath Go.MapKept

theorem und_eq {k a b c d : Int} (hk : k = 1 ∨ k = 2 ∧ 0 ≤ c) (ha : Ok64 a b) : undS a b c d = undefB k a c d := by
  have p1 := ha.le
  have p2 := ha.lo
  unfold undS undefB
  rcases hk with rfl | ⟨rfl, h⟩
  · rw [show decide ((-9223372036854775808 : Int) ≤ b) = true by simp; omega]
    simp [least, Bool.and_assoc]
  · rw [show decide (c ≤ -1) = false by simp; omega]
    simp
theorem kind_low {k c d : Int} (hk : k = 1 ∨ k = 2) (h : checkErr k c d = 0) : k = 1 ∨ k = 2 ∧ 0 ≤ c := by
  rcases hk with h1 | h1
  · exact .inl h1
  · exact .inr ⟨h1, (check_byte h1 h).1⟩
theorem fin_in {k l h : Int} (hk : k = 1 ∨ k = 2) (h1 : fullLow k ≤ l) (h2 : l ≤ h) (h3 : h ≤ fullHigh k) : fin l h k = (l, h) := by
  unfold fin
  rcases hk with rfl | rfl
  · simp only [fullLow, fullHigh, if_true] at h1 h3
    rw [out64_no (by omega) (by omega), out64_no (by omega) (by omega)]
    simp
  · simp [fullLow, fullHigh] at h1 h3
    rw [out64_no (by omega) (by omega), out64_no (by omega) (by omega), if_neg (by simp), if_neg (by omega), if_pos (by omega)]
    rw [show l % 256 = l by omega, show h % 256 = h by omega]
theorem len_pos {α : Type} {l : List α} (h : l ≠ []) : 0 < l.length := List.length_pos_iff.2 h

theorem divL_fn (a b c d : Int) (ha : Ok64 a b) (hc : Ok64 c d) : ∀ p ∈ divL a b c d, ∀ u, (u = p.a ∨ u = p.b) → ∀ z, (z = p.c ∨ z = p.d) → ¬ z = 0 ∧ -9223372036854775808 ≤ u.tdiv z ∧ u.tdiv z ≤ 9223372036854775807 := by
  rw [divL_eq a b c d ha hc]
  have p1 := ha.le
  have p2 := ha.lo
  have p3 := ha.hi
  have q1 := hc.le
  have q2 := hc.lo
  have q3 := hc.hi
  intro p hp u hu z hz
  have key : ¬ z = 0 ∧ (-9223372036854775808 ≤ u ∧ u ≤ 9223372036854775807) ∧ (-9223372036854775807 ≤ u ∨ z ≠ -1) := by
    rcases List.mem_append.1 hp with hp | hp
    · rcases List.mem_append.1 hp with hp | hp
      · by_cases h : c ≤ -2
        · rw [if_pos h, List.mem_singleton] at hp
          subst hp
          dsimp only at hu hz
          omega
        · rw [if_neg h] at hp; simp at hp
      · by_cases h : max a (-9223372036854775807) ≤ b ∧ c ≤ -1 ∧ -1 ≤ d
        · rw [if_pos h, List.mem_singleton] at hp
          subst hp
          dsimp only at hu hz
          omega
        · rw [if_neg h] at hp; simp at hp
    · by_cases h : 1 ≤ d
      · rw [if_pos h, List.mem_singleton] at hp
        subst hp
        dsimp only at hu hz
        omega
      · rw [if_neg h] at hp; simp at hp
  exact ⟨key.1, quo_in u z key.2.1.1 key.2.1.2 key.1 key.2.2⟩

theorem bin_div (k a b c d : Int) (hk : k = 1 ∨ k = 2) (h1 : checkErr k a b = 0) (h2 : checkErr k c d = 0) : BinIs 2 k a b c d := by
  intro w
  have o1 := check_ok64 h1
  have o2 := check_ok64 h2
  have D := pdivisible a b c d
  have H := hull_eq k a b c d (kind_low hk h2) o1 o2
  have U := und_eq (d := d) (kind_low hk h2) o1
  have c1 := check_parts h1
  have c2 := check_parts h2
  by_cases hp : pairsS k a b c d = []
  · have e : binS 2 k a b c d = ⟨0, 0, false, decide (c ≤ 0) && decide (0 ≤ d), undS a b c d⟩ := by simp [binS, hp, U]
    rw [e]
    have hD := H.1.2 hp
    rw [hD] at D
    refine binary_arith 2 k a b c d _ _ _ _ _ hk (by omega) (fun w => arith_eff 2 k a b c d _ _ _ _ _ 92 1 (fun n => rfl) ent_a2 ?_ w) (okB_of h1) (okB_of h2) w
    intro kb w hkb hk
    exact parith_2 k a b c d 0 0 false _ _ kb w hkb hk (fun w => Lib.hid (divcalc_none D w)) (pdivided a b c d 0 0 false)
  · have hD : divL a b c d ≠ [] := fun h => hp (H.1.1 h)
    have e : binS 2 k a b c d = ⟨hullLo (pairsS k a b c d), hullHi (pairsS k a b c d), true, decide (c ≤ 0) && decide (0 ≤ d), undS a b c d⟩ := by simp [binS, hp, U]
    have B := hull_in (pairsS k a b c d) (fullLow k) (fullHigh k) hp (pairs_in k a b c d hk c1.2.2.1 c1.2.1 c1.2.2.2 c2.2.2.1 c2.2.1 c2.2.2.2)
    have M := minTo_hull (divL a b c d) (len_pos hD) (divL_len a b c d)
    rw [H.2.1, H.2.2] at M
    rw [e]
    have C := calc_ok k 94 (fun x y => x.tdiv y) (divL a b c d) (hullLo (pairsS k a b c d)) (hullHi (pairsS k a b c d)) (divL_len a b c d) (len_pos hD) ent_quotient (quotient_fn _ (divL_fn a b c d o1 o2)) M.1 M.2
      (by
        rcases hk with h | h
        · exact .inl h
        · refine .inr ⟨h, ?_⟩
          subst h
          have x : (0 : Int) ≤ hullLo (pairsS 2 a b c d) := by simpa [fullLow] using B.1
          have y : hullHi (pairsS 2 a b c d) ≤ 255 := by simpa [fullHigh] using B.2.1
          have z := B.2.2
          omega)
    rw [fin_in hk B.1 B.2.2 B.2.1] at C
    refine binary_arith 2 k a b c d _ _ _ _ _ hk (by omega) (fun w => arith_eff 2 k a b c d _ _ _ _ _ 92 1 (fun n => rfl) ent_a2 ?_ w) (okB_of h1) (okB_of h2) w
    intro kb w hkb hk
    exact parith_2 k a b c d _ _ true _ _ kb w hkb hk (fun w => Lib.hid (divcalc_some D (len_pos hD) C w)) (pdivided a b c d _ _ true)

theorem bin_rem (k a b c d : Int) (hk : k = 1 ∨ k = 2) (h1 : checkErr k a b = 0) (h2 : checkErr k c d = 0) : BinIs 3 k a b c d := by
  intro w
  have o1 := check_ok64 h1
  have o2 := check_ok64 h2
  have D := pdivisible a b c d
  have H := hull_eq k a b c d (kind_low hk h2) o1 o2
  have U := und_eq (d := d) (kind_low hk h2) o1
  have p1 := o1.le
  have p2 := o1.lo
  have p3 := o1.hi
  have q1 := o2.le
  have q2 := o2.lo
  have q3 := o2.hi
  by_cases hp : pairsS k a b c d = []
  · have e : binS 3 k a b c d = ⟨0, 0, false, decide (c ≤ 0) && decide (0 ≤ d), undS a b c d⟩ := by simp [binS, hp, U]
    rw [e]
    have hD := H.1.2 hp
    rw [hD] at D
    refine binary_arith 3 k a b c d _ _ _ _ _ hk (by omega) (fun w => arith_eff3 k a b c d _ _ _ _ _ ?_ ent_a3 w) (okB_of h1) (okB_of h2) w
    intro w
    exact parith_3 a b c d 0 0 false _ _ w (prem_empty a b c d D) (pdivided a b c d 0 0 false)
  · have hD : divL a b c d ≠ [] := fun h => hp (H.1.1 h)
    have e : binS 3 k a b c d = ⟨(restS a b (mS c d) (MS c d)).1, (restS a b (mS c d) (MS c d)).2, true, decide (c ≤ 0) && decide (0 ≤ d), undS a b c d⟩ := by simp [binS, hp, U]
    have Z := psizes_any c d q2 (by omega) (by omega) q3
    have hcd : ¬ (c = 0 ∧ d = 0) := by
      rintro ⟨rfl, rfl⟩
      exact hp (by simp [pairsS])
    rw [show (if c ≤ 0 ∧ 0 ≤ d then 1 else min (c.natAbs : Int) (d.natAbs : Int)) = mS c d by
      unfold mS
      by_cases x1 : 0 < c
      · rw [if_pos x1, if_neg (by omega)]; omega
      · by_cases x2 : d < 0
        · rw [if_neg x1, if_pos x2, if_neg (by omega)]; omega
        · rw [if_neg x1, if_neg x2, if_pos (by omega)],
      show max (c.natAbs : Int) (d.natAbs : Int) = MS c d by unfold MS; omega] at Z
    rw [e]
    have R := prem_some a b c d (mS c d) (MS c d) (divL a b c d) (len_pos hD) D Z (by unfold MS; omega) (by unfold MS; omega) p2 (by omega) (by omega) p3
    refine binary_arith 3 k a b c d _ _ _ _ _ hk (by omega) (fun w => arith_eff3 k a b c d _ _ _ _ _ ?_ ent_a3 w) (okB_of h1) (okB_of h2) w
    intro w
    exact parith_3 a b c d _ _ true _ _ w R (pdivided a b c d _ _ true)

end Go.Proofs.Ytgkhldbnljdeiaa

/- only and the connectives of layer 4: the closures, and what Binary makes of truths. -/
namespace Go.Proofs.Ytgkhldbnljdeiaa
open Go.RowKit RangesMath Go.MapKept
attribute [local go_sem] World.setCell_self

set_option maxRecDepth 100000 in
set_option maxHeartbeats 2000000 in
theorem ponly_w (v : Int) (w : World) (SR : ∀ w, Hid (Calls Try.prog 81 #[.agg #[.int .i64 v, .int .i64 v]] w fun e w' => e = .returned (.agg #[.int .i64 v, .int .i64 v, .bool true, .bool false, .bool false]) ∧ Below w.heap.size w w')) :
    Calls Try.prog 84 #[.int .i64 v] w fun e w' => e = .returned (EffV v v true false false) ∧ Below w.heap.size w w' := by
  go_enter Try.func84, Try.ntmps84
  go_wp2_with fail
  refine (SR _).out.mono ?_
  rintro e w1 ⟨rfl, hB⟩
  have z : w.heap.size < w1.heap.size := by have := hB.size; simp at this; omega
  have r0 : w1.cell? ⟨w.heap.size, 0, none⟩ = some (.int .i64 0) := cell_later hB (by go_simp)
  have r1 : w1.cell? ⟨w.heap.size, 1, none⟩ = some (.int .i64 0) := cell_later hB (by go_simp)
  have r2 : w1.cell? ⟨w.heap.size, 2, none⟩ = some (.bool false) := cell_later hB (by go_simp)
  have r3 : w1.cell? ⟨w.heap.size, 3, none⟩ = some (.bool false) := cell_later hB (by go_simp)
  have r4 : w1.cell? ⟨w.heap.size, 4, none⟩ = some (.bool false) := cell_later hB (by go_simp)
  have f0 : w1.frozen? ⟨w.heap.size, 0, none⟩ = false := keepFr hB (by simp; try omega) (by go_simp)
  have f1 : w1.frozen? ⟨w.heap.size, 1, none⟩ = false := keepFr hB (by simp; try omega) (by go_simp)
  have f2 : w1.frozen? ⟨w.heap.size, 2, none⟩ = false := keepFr hB (by simp; try omega) (by go_simp)
  have f3 : w1.frozen? ⟨w.heap.size, 3, none⟩ = false := keepFr hB (by simp; try omega) (by go_simp)
  have f4 : w1.frozen? ⟨w.heap.size, 4, none⟩ = false := keepFr hB (by simp; try omega) (by go_simp)
  have bl : Below w.heap.size w w1 := (Below.refl _ _).alloc (Nat.le_refl _) _ |>.trans (hB.mono (by simp))
  clear hB
  go_wp2
  refine bodyPost_ret (v := EffV v v true false false) (by simp [results, Try.results84, go_sem, r0, r1, r2, r3, r4, EffV]) rfl ⟨rfl, ?_⟩
  exact ((bl.setCell (by simp; try omega) _).setCell (by simp; try omega) _).setCell (by simp; try omega) _

theorem ponly (v : Int) (w : World) : Calls Try.prog 84 #[.int .i64 v] w fun e w' => e = .returned (EffV v v true false false) ∧ Below w.heap.size w w' := ponly_w v w (fun w => Lib.hid (psure_any v v w))

set_option maxRecDepth 100000 in
set_option maxHeartbeats 2000000 in
theorem pcon1_w (a b c d x y : Int) (w : World) (e1 : wrap64 (a * c) = x) (e2 : IntKind.i64.wrap (a * c) = x) (e3 : wrap64 (b * d) = y) (e4 : IntKind.i64.wrap (b * d) = y) (SR : ∀ w, Hid (Calls Try.prog 81 #[.agg #[.int .i64 x, .int .i64 y]] w fun e w' => e = .returned (.agg #[.int .i64 x, .int .i64 y, .bool true, .bool false, .bool false]) ∧ Below w.heap.size w w')) :
    Calls Try.prog 106 #[.agg #[.int .i64 a, .int .i64 b], .agg #[.int .i64 c, .int .i64 d]] w fun e w' => e = .returned (EffV x y true false false) ∧ Below w.heap.size w w' := by
  go_enter Try.func106, Try.ntmps106
  go_wp2_with fail
  refine (SR _).out.mono ?_
  rintro e w1 ⟨rfl, hB⟩
  have z : w.heap.size + 1 + 1 < w1.heap.size := by have := hB.size; simp at this; omega
  have r0 : w1.cell? ⟨w.heap.size + 1 + 1, 0, none⟩ = some (.int .i64 0) := cell_later hB (by go_simp)
  have r1 : w1.cell? ⟨w.heap.size + 1 + 1, 1, none⟩ = some (.int .i64 0) := cell_later hB (by go_simp)
  have r2 : w1.cell? ⟨w.heap.size + 1 + 1, 2, none⟩ = some (.bool false) := cell_later hB (by go_simp)
  have r3 : w1.cell? ⟨w.heap.size + 1 + 1, 3, none⟩ = some (.bool false) := cell_later hB (by go_simp)
  have r4 : w1.cell? ⟨w.heap.size + 1 + 1, 4, none⟩ = some (.bool false) := cell_later hB (by go_simp)
  have f0 : w1.frozen? ⟨w.heap.size + 1 + 1, 0, none⟩ = false := keepFr hB (by simp; try omega) (by go_simp)
  have f1 : w1.frozen? ⟨w.heap.size + 1 + 1, 1, none⟩ = false := keepFr hB (by simp; try omega) (by go_simp)
  have f2 : w1.frozen? ⟨w.heap.size + 1 + 1, 2, none⟩ = false := keepFr hB (by simp; try omega) (by go_simp)
  have f3 : w1.frozen? ⟨w.heap.size + 1 + 1, 3, none⟩ = false := keepFr hB (by simp; try omega) (by go_simp)
  have f4 : w1.frozen? ⟨w.heap.size + 1 + 1, 4, none⟩ = false := keepFr hB (by simp; try omega) (by go_simp)
  have bl : Below w.heap.size w w1 := (((Below.refl _ _).alloc (Nat.le_refl _) _).alloc (by simp) _).alloc (by simp; omega) _ |>.trans (hB.mono (by simp; omega))
  clear hB
  go_wp2
  refine bodyPost_ret (v := EffV x y true false false) (by simp [results, Try.results106, go_sem, r0, r1, r2, r3, r4, EffV]) rfl ⟨rfl, ?_⟩
  exact ((bl.setCell (by simp; try omega) _).setCell (by simp; try omega) _).setCell (by simp; try omega) _

set_option maxRecDepth 100000 in
set_option maxHeartbeats 2000000 in
theorem pcon2_w (a b c d : Int) (w : World) (SR : ∀ w, Hid (Calls Try.prog 81 #[.agg #[.int .i64 (max a c), .int .i64 (max b d)]] w fun e w' => e = .returned (.agg #[.int .i64 (max a c), .int .i64 (max b d), .bool true, .bool false, .bool false]) ∧ Below w.heap.size w w')) :
    Calls Try.prog 107 #[.agg #[.int .i64 a, .int .i64 b], .agg #[.int .i64 c, .int .i64 d]] w fun e w' => e = .returned (EffV (max a c) (max b d) true false false) ∧ Below w.heap.size w w' := by
  have m0 : ∀ n m : Int, (if n < m then m else n) = max n m := by intro n m; split <;> omega
  go_enter Try.func107, Try.ntmps107
  go_wp2_with fail
  refine (SR _).out.mono ?_
  rintro e w1 ⟨rfl, hB⟩
  have z : w.heap.size + 1 + 1 < w1.heap.size := by have := hB.size; simp at this; omega
  have r0 : w1.cell? ⟨w.heap.size + 1 + 1, 0, none⟩ = some (.int .i64 0) := cell_later hB (by go_simp)
  have r1 : w1.cell? ⟨w.heap.size + 1 + 1, 1, none⟩ = some (.int .i64 0) := cell_later hB (by go_simp)
  have r2 : w1.cell? ⟨w.heap.size + 1 + 1, 2, none⟩ = some (.bool false) := cell_later hB (by go_simp)
  have r3 : w1.cell? ⟨w.heap.size + 1 + 1, 3, none⟩ = some (.bool false) := cell_later hB (by go_simp)
  have r4 : w1.cell? ⟨w.heap.size + 1 + 1, 4, none⟩ = some (.bool false) := cell_later hB (by go_simp)
  have f0 : w1.frozen? ⟨w.heap.size + 1 + 1, 0, none⟩ = false := keepFr hB (by simp; try omega) (by go_simp)
  have f1 : w1.frozen? ⟨w.heap.size + 1 + 1, 1, none⟩ = false := keepFr hB (by simp; try omega) (by go_simp)
  have f2 : w1.frozen? ⟨w.heap.size + 1 + 1, 2, none⟩ = false := keepFr hB (by simp; try omega) (by go_simp)
  have f3 : w1.frozen? ⟨w.heap.size + 1 + 1, 3, none⟩ = false := keepFr hB (by simp; try omega) (by go_simp)
  have f4 : w1.frozen? ⟨w.heap.size + 1 + 1, 4, none⟩ = false := keepFr hB (by simp; try omega) (by go_simp)
  have bl : Below w.heap.size w w1 := (((Below.refl _ _).alloc (Nat.le_refl _) _).alloc (by simp) _).alloc (by simp; omega) _ |>.trans (hB.mono (by simp; omega))
  clear hB
  go_wp2
  refine bodyPost_ret (v := EffV (max a c) (max b d) true false false) (by simp [results, Try.results107, go_sem, r0, r1, r2, r3, r4, EffV]) rfl ⟨rfl, ?_⟩
  exact ((bl.setCell (by simp; try omega) _).setCell (by simp; try omega) _).setCell (by simp; try omega) _

theorem con_find (op a b c d x y : Int) (s t u : Bool) (g i : Nat) (hf : Instr.findNow (.int .i64) (.int .i64 op) [⟨.int .i64 17, .func (.func 106) #[] #[], 0⟩, ⟨.int .i64 18, .func (.func 107) #[] #[], 1⟩] 0 = some (some (i, .func (.func g) #[] #[]))) (hE : Enters g)
    (hM : ∀ w, Calls Try.prog g #[.agg #[.int .i64 a, .int .i64 b], .agg #[.int .i64 c, .int .i64 d]] w fun e w' => e = .returned (EffV x y s t u) ∧ Below w.heap.size w w') (w : World) :
    Calls Try.prog 61 #[] w (FindEff op a b c d x y s t u w) := by
  refine (pconnectives w).mono ?_
  rintro e w' ⟨b', rfl, hb, _, _, hB⟩
  refine ⟨_, g, #[], rfl, hB, run_look (i := i) Try.underlying100 Try.underlying3 hb hf true, hE, ?_⟩
  intro w2 h2
  exact hM w2
theorem con_some (op : Int) (h : op = 17 ∨ op = 18) (w : World) : Calls Try.prog 61 #[] w (FindSome op w) := by
  refine (pconnectives w).mono ?_
  rintro e w' ⟨b', rfl, hb, _, _, hB⟩
  rcases h with rfl | rfl
  · exact ⟨_, 106, #[], rfl, hB, run_look (i := 0) Try.underlying100 Try.underlying3 hb rfl true⟩
  · exact ⟨_, 107, #[], rfl, hB, run_look (i := 1) Try.underlying100 Try.underlying3 hb rfl true⟩
theorem con_no (op : Int) (h : op ≠ 17 ∧ op ≠ 18) (w : World) : Calls Try.prog 61 #[] w (FindNo op w) := by
  refine (pconnectives w).mono ?_
  rintro e w' ⟨b', rfl, hb, _, _, hB⟩
  have e1 : (op == 17) = false := by simpa using h.1
  have e2 : (op == 18) = false := by simpa using h.2
  refine ⟨_, rfl, hB, run_look_none Try.underlying100 Try.underlying3 hb ?_ (zero_op w') true⟩
  simp only [Instr.findNow, Instr.sameNow, if_true]
  rw [e1, e2]
theorem ent_n1 : Enters 106 := fun _ _ => by kernel_rfl
theorem ent_n2 : Enters 107 := fun _ _ => by kernel_rfl
theorem comp_nil (k op : Int) (h : cmpOK k op = false) (w : World) : Hid (Calls Try.prog 45 #[.int .i64 k] w (CompOut [(op, .nilFunc)] w)) := by
  have C := pcomp_any k [op] w
  simp only [List.map_cons, List.map_nil, nar_no h] at C
  exact Lib.hid C
theorem truth_in {a b : Int} (h : checkErr 3 a b = 0) : 0 ≤ a ∧ a ≤ b ∧ b ≤ 1 := by
  have o := check_parts h
  have h1 := o.2.2.1
  have h2 := o.2.2.2
  exact ⟨by simpa [fullLow] using h1, o.2.1, by simpa [fullHigh] using h2⟩

theorem bin_land (a b c d : Int) (h1 : checkErr 3 a b = 0) (h2 : checkErr 3 c d = 0) : BinIs 17 3 a b c d := by
  intro w
  have A := are2_any 3 a b c d
  rw [okB_of h1, okB_of h2] at A
  have x := truth_in h1
  have y := truth_in h2
  have m1 := mul_byte (u := a) (v := c) (by omega) (by omega) (by omega) (by omega)
  have m2 := mul_byte (u := b) (v := d) (by omega) (by omega) (by omega) (by omega)
  have w1 : ∀ n : Int, 0 ≤ n → n ≤ 65025 → wrap64 n = n := by intro n h1 h2; unfold wrap64; omega
  have w2 : ∀ n : Int, 0 ≤ n → n ≤ 65025 → IntKind.i64.wrap n = n := by intro n h1 h2; rw [IntKind.wrap_i64]; omega
  exact pbinary_ok 17 3 a b c d (a * c) (b * d) true false false w (fun w => Lib.hid (pbof_con 17 a b c d _ _ true false false w (fun w => comp_nil 3 17 (by rfl) w) (fun w => Lib.hid (con_find 17 a b c d _ _ true false false 106 0 rfl ent_n1
    (fun w => pcon1_w a b c d _ _ w (w1 _ m1.1 m1.2) (w2 _ m1.1 m1.2) (w1 _ m2.1 m2.2) (w2 _ m2.1 m2.2) (fun w => Lib.hid (psure_any _ _ w))) w)))) A

theorem bin_lor (a b c d : Int) (h1 : checkErr 3 a b = 0) (h2 : checkErr 3 c d = 0) : BinIs 18 3 a b c d := by
  intro w
  have A := are2_any 3 a b c d
  rw [okB_of h1, okB_of h2] at A
  exact pbinary_ok 18 3 a b c d (max a c) (max b d) true false false w (fun w => Lib.hid (pbof_con 18 a b c d _ _ true false false w (fun w => comp_nil 3 18 (by rfl) w) (fun w => Lib.hid (con_find 18 a b c d _ _ true false false 107 1 rfl ent_n2
    (fun w => pcon2_w a b c d w (fun w => Lib.hid (psure_any _ _ w))) w)))) A

end Go.Proofs.Ytgkhldbnljdeiaa

/- The closures of bitwise of layer 4: single values, and the ranges around what &, ^ and | make. -/
namespace Go.Proofs.Ytgkhldbnljdeiaa
open Go.RowKit RangesMath
attribute [local go_sem] World.setCell_self

/-- isSingle of a range. -/
def Sing (a b : Int) (t : Bool) : Prop := ∀ w, Hid (Calls Try.prog 83 #[.agg #[.int .i64 a, .int .i64 b]] w fun e w' => e = .returned (.bool t) ∧ Below w.heap.size w w')
/-- sure of a range. -/
def Sure (x y : Int) : Prop := ∀ w, Hid (Calls Try.prog 81 #[.agg #[.int .i64 x, .int .i64 y]] w fun e w' => e = .returned (.agg #[.int .i64 x, .int .i64 y, .bool true, .bool false, .bool false]) ∧ Below w.heap.size w w')
def Only (v : Int) : Prop := ∀ w, Hid (Calls Try.prog 84 #[.int .i64 v] w fun e w' => e = .returned (.agg #[.int .i64 v, .int .i64 v, .bool true, .bool false, .bool false]) ∧ Below w.heap.size w w')
def Gives (f : Nat) (args : Array Value) (x y : Int) : Prop := ∀ w, Hid (Calls Try.prog f args w (RangeIs x y w))

set_option maxRecDepth 100000 in
set_option maxHeartbeats 4000000 in
theorem pbitw_1s (a c k : Int) (kb : Nat) (w : World) (hkb : kb < w.heap.size) (hk : w.cell? ⟨kb, 0, none⟩ = some (.int .i64 k)) (S1 : Sing a a true) (S2 : Sing c c true) (ON : Only (bits .and .i64 a c)) :
    Calls Try.prog 82 #[.agg #[.int .i64 a, .int .i64 a], .agg #[.int .i64 c, .int .i64 c], .pointer (some ⟨kb, 0, none⟩)] w fun e w' => e = .returned (EffV (bits .and .i64 a c) (bits .and .i64 a c) true false false) ∧ Below w.heap.size w w' := by
  have hk3 : ∀ o1 o2 o3, (((w.alloc o1).alloc o2).alloc o3).cell? ⟨kb, 0, none⟩ = some (.int .i64 k) := by
    intro o1 o2 o3
    rw [((((Below.refl w.heap.size w).alloc (Nat.le_refl _) o1).alloc (by simp) o2).alloc (by simp; omega) o3).cell (p := ⟨kb, 0, none⟩) hkb]
    exact hk
  clear hk
  go_enter Try.func82, Try.ntmps82
  go_wp2_with fail
  refine (S1 _).out.mono ?_
  rintro e1 w1 ⟨rfl, hB1⟩
  have z2_1 : w.heap.size + 1 + 1 < w1.heap.size := by have := hB1.size; simp at this; omega
  have bl1 : Below w.heap.size w w1 := ((((Below.refl _ _).alloc (Nat.le_refl _) _).alloc (by simp) _).alloc (by simp; omega) _).trans (hB1.mono (by simp; omega))
  have z0_1 : w.heap.size < w1.heap.size := by omega
  have z1_1 : w.heap.size + 1 < w1.heap.size := by omega
  have zk_1 : kb < w1.heap.size := by omega
  have a0_1 : w1.cell? ⟨w.heap.size, 0, none⟩ = some (.int .i64 a) := cell_later hB1 (by go_simp)
  have a1_1 : w1.cell? ⟨w.heap.size, 1, none⟩ = some (.int .i64 a) := cell_later hB1 (by go_simp)
  have c0_1 : w1.cell? ⟨w.heap.size + 1, 0, none⟩ = some (.int .i64 c) := cell_later hB1 (by go_simp)
  have c1_1 : w1.cell? ⟨w.heap.size + 1, 1, none⟩ = some (.int .i64 c) := cell_later hB1 (by go_simp)
  have r0_1 : w1.cell? ⟨w.heap.size + 1 + 1, 0, none⟩ = some (.int .i64 0) := cell_later hB1 (by go_simp)
  have r1_1 : w1.cell? ⟨w.heap.size + 1 + 1, 1, none⟩ = some (.int .i64 0) := cell_later hB1 (by go_simp)
  have r2_1 : w1.cell? ⟨w.heap.size + 1 + 1, 2, none⟩ = some (.bool false) := cell_later hB1 (by go_simp)
  have r3_1 : w1.cell? ⟨w.heap.size + 1 + 1, 3, none⟩ = some (.bool false) := cell_later hB1 (by go_simp)
  have r4_1 : w1.cell? ⟨w.heap.size + 1 + 1, 4, none⟩ = some (.bool false) := cell_later hB1 (by go_simp)
  have k0_1 : w1.cell? ⟨kb, 0, none⟩ = some (.int .i64 k) := cell_later hB1 (by go_simp)
  have f0_1 : w1.frozen? ⟨w.heap.size + 1 + 1, 0, none⟩ = false := keepFr hB1 (by first | omega | (simp; omega) | simp) (by go_simp)
  have f1_1 : w1.frozen? ⟨w.heap.size + 1 + 1, 1, none⟩ = false := keepFr hB1 (by first | omega | (simp; omega) | simp) (by go_simp)
  have f2_1 : w1.frozen? ⟨w.heap.size + 1 + 1, 2, none⟩ = false := keepFr hB1 (by first | omega | (simp; omega) | simp) (by go_simp)
  have f3_1 : w1.frozen? ⟨w.heap.size + 1 + 1, 3, none⟩ = false := keepFr hB1 (by first | omega | (simp; omega) | simp) (by go_simp)
  have f4_1 : w1.frozen? ⟨w.heap.size + 1 + 1, 4, none⟩ = false := keepFr hB1 (by first | omega | (simp; omega) | simp) (by go_simp)
  clear hB1
  go_wp2_with fail
  refine (S2 _).out.mono ?_
  rintro e2 w2 ⟨rfl, hB2⟩
  have z2_2 : w.heap.size + 1 + 1 < w2.heap.size := by have := hB2.size; omega
  have bl2 : Below w.heap.size w w2 := bl1.trans (hB2.mono (by omega))
  have z0_2 : w.heap.size < w2.heap.size := by omega
  have z1_2 : w.heap.size + 1 < w2.heap.size := by omega
  have zk_2 : kb < w2.heap.size := by omega
  have a0_2 : w2.cell? ⟨w.heap.size, 0, none⟩ = some (.int .i64 a) := cell_later hB2 (by go_simp)
  have a1_2 : w2.cell? ⟨w.heap.size, 1, none⟩ = some (.int .i64 a) := cell_later hB2 (by go_simp)
  have c0_2 : w2.cell? ⟨w.heap.size + 1, 0, none⟩ = some (.int .i64 c) := cell_later hB2 (by go_simp)
  have c1_2 : w2.cell? ⟨w.heap.size + 1, 1, none⟩ = some (.int .i64 c) := cell_later hB2 (by go_simp)
  have r0_2 : w2.cell? ⟨w.heap.size + 1 + 1, 0, none⟩ = some (.int .i64 0) := cell_later hB2 (by go_simp)
  have r1_2 : w2.cell? ⟨w.heap.size + 1 + 1, 1, none⟩ = some (.int .i64 0) := cell_later hB2 (by go_simp)
  have r2_2 : w2.cell? ⟨w.heap.size + 1 + 1, 2, none⟩ = some (.bool false) := cell_later hB2 (by go_simp)
  have r3_2 : w2.cell? ⟨w.heap.size + 1 + 1, 3, none⟩ = some (.bool false) := cell_later hB2 (by go_simp)
  have r4_2 : w2.cell? ⟨w.heap.size + 1 + 1, 4, none⟩ = some (.bool false) := cell_later hB2 (by go_simp)
  have k0_2 : w2.cell? ⟨kb, 0, none⟩ = some (.int .i64 k) := cell_later hB2 (by go_simp)
  have f0_2 : w2.frozen? ⟨w.heap.size + 1 + 1, 0, none⟩ = false := keepFr hB2 (by first | omega | (simp; omega) | simp) (by go_simp)
  have f1_2 : w2.frozen? ⟨w.heap.size + 1 + 1, 1, none⟩ = false := keepFr hB2 (by first | omega | (simp; omega) | simp) (by go_simp)
  have f2_2 : w2.frozen? ⟨w.heap.size + 1 + 1, 2, none⟩ = false := keepFr hB2 (by first | omega | (simp; omega) | simp) (by go_simp)
  have f3_2 : w2.frozen? ⟨w.heap.size + 1 + 1, 3, none⟩ = false := keepFr hB2 (by first | omega | (simp; omega) | simp) (by go_simp)
  have f4_2 : w2.frozen? ⟨w.heap.size + 1 + 1, 4, none⟩ = false := keepFr hB2 (by first | omega | (simp; omega) | simp) (by go_simp)
  clear hB2 bl1 z0_1 z1_1 z2_1 zk_1 a0_1 a1_1 c0_1 c1_1 k0_1 r0_1 r1_1 r2_1 r3_1 r4_1 f0_1 f1_1 f2_1 f3_1 f4_1
  go_wp2_with fail
  refine (ON _).out.mono ?_
  rintro e3 w3 ⟨rfl, hB3⟩
  have z2_3 : w.heap.size + 1 + 1 < w3.heap.size := by have := hB3.size; omega
  have bl3 : Below w.heap.size w w3 := bl2.trans (hB3.mono (by omega))
  have z0_3 : w.heap.size < w3.heap.size := by omega
  have z1_3 : w.heap.size + 1 < w3.heap.size := by omega
  have zk_3 : kb < w3.heap.size := by omega
  have a0_3 : w3.cell? ⟨w.heap.size, 0, none⟩ = some (.int .i64 a) := cell_later hB3 (by go_simp)
  have a1_3 : w3.cell? ⟨w.heap.size, 1, none⟩ = some (.int .i64 a) := cell_later hB3 (by go_simp)
  have c0_3 : w3.cell? ⟨w.heap.size + 1, 0, none⟩ = some (.int .i64 c) := cell_later hB3 (by go_simp)
  have c1_3 : w3.cell? ⟨w.heap.size + 1, 1, none⟩ = some (.int .i64 c) := cell_later hB3 (by go_simp)
  have r0_3 : w3.cell? ⟨w.heap.size + 1 + 1, 0, none⟩ = some (.int .i64 0) := cell_later hB3 (by go_simp)
  have r1_3 : w3.cell? ⟨w.heap.size + 1 + 1, 1, none⟩ = some (.int .i64 0) := cell_later hB3 (by go_simp)
  have r2_3 : w3.cell? ⟨w.heap.size + 1 + 1, 2, none⟩ = some (.bool false) := cell_later hB3 (by go_simp)
  have r3_3 : w3.cell? ⟨w.heap.size + 1 + 1, 3, none⟩ = some (.bool false) := cell_later hB3 (by go_simp)
  have r4_3 : w3.cell? ⟨w.heap.size + 1 + 1, 4, none⟩ = some (.bool false) := cell_later hB3 (by go_simp)
  have k0_3 : w3.cell? ⟨kb, 0, none⟩ = some (.int .i64 k) := cell_later hB3 (by go_simp)
  have f0_3 : w3.frozen? ⟨w.heap.size + 1 + 1, 0, none⟩ = false := keepFr hB3 (by first | omega | (simp; omega) | simp) (by go_simp)
  have f1_3 : w3.frozen? ⟨w.heap.size + 1 + 1, 1, none⟩ = false := keepFr hB3 (by first | omega | (simp; omega) | simp) (by go_simp)
  have f2_3 : w3.frozen? ⟨w.heap.size + 1 + 1, 2, none⟩ = false := keepFr hB3 (by first | omega | (simp; omega) | simp) (by go_simp)
  have f3_3 : w3.frozen? ⟨w.heap.size + 1 + 1, 3, none⟩ = false := keepFr hB3 (by first | omega | (simp; omega) | simp) (by go_simp)
  have f4_3 : w3.frozen? ⟨w.heap.size + 1 + 1, 4, none⟩ = false := keepFr hB3 (by first | omega | (simp; omega) | simp) (by go_simp)
  clear hB3 bl2 z0_2 z1_2 z2_2 zk_2 a0_2 a1_2 c0_2 c1_2 k0_2 r0_2 r1_2 r2_2 r3_2 r4_2 f0_2 f1_2 f2_2 f3_2 f4_2
  go_wp2
  refine bodyPost_ret (v := EffV (bits .and .i64 a c) (bits .and .i64 a c) true false false) (by simp [results, Try.results82, go_sem, r0_3, r1_3, r2_3, r3_3, r4_3, EffV]) rfl ⟨rfl, ?_⟩
  exact (((bl3.setCell (by simp; try omega) _).setCell (by simp; try omega) _).setCell (by simp; try omega) _)

set_option maxRecDepth 100000 in
set_option maxHeartbeats 4000000 in
theorem pbitw_1n (a b c d k x y : Int) (kb : Nat) (w : World) (hkb : kb < w.heap.size) (hk : w.cell? ⟨kb, 0, none⟩ = some (.int .i64 k)) (S1 : Sing a b false) (G : Gives 85 #[.int .i64 k, .agg #[.int .i64 a, .int .i64 b], .agg #[.int .i64 c, .int .i64 d]] x y) (SR : Sure x y) :
    Calls Try.prog 82 #[.agg #[.int .i64 a, .int .i64 b], .agg #[.int .i64 c, .int .i64 d], .pointer (some ⟨kb, 0, none⟩)] w fun e w' => e = .returned (EffV (x) (y) true false false) ∧ Below w.heap.size w w' := by
  have hk3 : ∀ o1 o2 o3, (((w.alloc o1).alloc o2).alloc o3).cell? ⟨kb, 0, none⟩ = some (.int .i64 k) := by
    intro o1 o2 o3
    rw [((((Below.refl w.heap.size w).alloc (Nat.le_refl _) o1).alloc (by simp) o2).alloc (by simp; omega) o3).cell (p := ⟨kb, 0, none⟩) hkb]
    exact hk
  clear hk
  go_enter Try.func82, Try.ntmps82
  go_wp2_with fail
  refine (S1 _).out.mono ?_
  rintro e1 w1 ⟨rfl, hB1⟩
  have z2_1 : w.heap.size + 1 + 1 < w1.heap.size := by have := hB1.size; simp at this; omega
  have bl1 : Below w.heap.size w w1 := ((((Below.refl _ _).alloc (Nat.le_refl _) _).alloc (by simp) _).alloc (by simp; omega) _).trans (hB1.mono (by simp; omega))
  have z0_1 : w.heap.size < w1.heap.size := by omega
  have z1_1 : w.heap.size + 1 < w1.heap.size := by omega
  have zk_1 : kb < w1.heap.size := by omega
  have a0_1 : w1.cell? ⟨w.heap.size, 0, none⟩ = some (.int .i64 a) := cell_later hB1 (by go_simp)
  have a1_1 : w1.cell? ⟨w.heap.size, 1, none⟩ = some (.int .i64 b) := cell_later hB1 (by go_simp)
  have c0_1 : w1.cell? ⟨w.heap.size + 1, 0, none⟩ = some (.int .i64 c) := cell_later hB1 (by go_simp)
  have c1_1 : w1.cell? ⟨w.heap.size + 1, 1, none⟩ = some (.int .i64 d) := cell_later hB1 (by go_simp)
  have r0_1 : w1.cell? ⟨w.heap.size + 1 + 1, 0, none⟩ = some (.int .i64 0) := cell_later hB1 (by go_simp)
  have r1_1 : w1.cell? ⟨w.heap.size + 1 + 1, 1, none⟩ = some (.int .i64 0) := cell_later hB1 (by go_simp)
  have r2_1 : w1.cell? ⟨w.heap.size + 1 + 1, 2, none⟩ = some (.bool false) := cell_later hB1 (by go_simp)
  have r3_1 : w1.cell? ⟨w.heap.size + 1 + 1, 3, none⟩ = some (.bool false) := cell_later hB1 (by go_simp)
  have r4_1 : w1.cell? ⟨w.heap.size + 1 + 1, 4, none⟩ = some (.bool false) := cell_later hB1 (by go_simp)
  have k0_1 : w1.cell? ⟨kb, 0, none⟩ = some (.int .i64 k) := cell_later hB1 (by go_simp)
  have f0_1 : w1.frozen? ⟨w.heap.size + 1 + 1, 0, none⟩ = false := keepFr hB1 (by first | omega | (simp; omega) | simp) (by go_simp)
  have f1_1 : w1.frozen? ⟨w.heap.size + 1 + 1, 1, none⟩ = false := keepFr hB1 (by first | omega | (simp; omega) | simp) (by go_simp)
  have f2_1 : w1.frozen? ⟨w.heap.size + 1 + 1, 2, none⟩ = false := keepFr hB1 (by first | omega | (simp; omega) | simp) (by go_simp)
  have f3_1 : w1.frozen? ⟨w.heap.size + 1 + 1, 3, none⟩ = false := keepFr hB1 (by first | omega | (simp; omega) | simp) (by go_simp)
  have f4_1 : w1.frozen? ⟨w.heap.size + 1 + 1, 4, none⟩ = false := keepFr hB1 (by first | omega | (simp; omega) | simp) (by go_simp)
  clear hB1
  go_wp2_with fail
  refine (G _).out.mono ?_
  rintro e2 w2 ⟨rfl, hB2⟩
  have z2_2 : w.heap.size + 1 + 1 < w2.heap.size := by have := hB2.size; omega
  have bl2 : Below w.heap.size w w2 := bl1.trans (hB2.mono (by omega))
  have z0_2 : w.heap.size < w2.heap.size := by omega
  have z1_2 : w.heap.size + 1 < w2.heap.size := by omega
  have zk_2 : kb < w2.heap.size := by omega
  have a0_2 : w2.cell? ⟨w.heap.size, 0, none⟩ = some (.int .i64 a) := cell_later hB2 (by go_simp)
  have a1_2 : w2.cell? ⟨w.heap.size, 1, none⟩ = some (.int .i64 b) := cell_later hB2 (by go_simp)
  have c0_2 : w2.cell? ⟨w.heap.size + 1, 0, none⟩ = some (.int .i64 c) := cell_later hB2 (by go_simp)
  have c1_2 : w2.cell? ⟨w.heap.size + 1, 1, none⟩ = some (.int .i64 d) := cell_later hB2 (by go_simp)
  have r0_2 : w2.cell? ⟨w.heap.size + 1 + 1, 0, none⟩ = some (.int .i64 0) := cell_later hB2 (by go_simp)
  have r1_2 : w2.cell? ⟨w.heap.size + 1 + 1, 1, none⟩ = some (.int .i64 0) := cell_later hB2 (by go_simp)
  have r2_2 : w2.cell? ⟨w.heap.size + 1 + 1, 2, none⟩ = some (.bool false) := cell_later hB2 (by go_simp)
  have r3_2 : w2.cell? ⟨w.heap.size + 1 + 1, 3, none⟩ = some (.bool false) := cell_later hB2 (by go_simp)
  have r4_2 : w2.cell? ⟨w.heap.size + 1 + 1, 4, none⟩ = some (.bool false) := cell_later hB2 (by go_simp)
  have k0_2 : w2.cell? ⟨kb, 0, none⟩ = some (.int .i64 k) := cell_later hB2 (by go_simp)
  have f0_2 : w2.frozen? ⟨w.heap.size + 1 + 1, 0, none⟩ = false := keepFr hB2 (by first | omega | (simp; omega) | simp) (by go_simp)
  have f1_2 : w2.frozen? ⟨w.heap.size + 1 + 1, 1, none⟩ = false := keepFr hB2 (by first | omega | (simp; omega) | simp) (by go_simp)
  have f2_2 : w2.frozen? ⟨w.heap.size + 1 + 1, 2, none⟩ = false := keepFr hB2 (by first | omega | (simp; omega) | simp) (by go_simp)
  have f3_2 : w2.frozen? ⟨w.heap.size + 1 + 1, 3, none⟩ = false := keepFr hB2 (by first | omega | (simp; omega) | simp) (by go_simp)
  have f4_2 : w2.frozen? ⟨w.heap.size + 1 + 1, 4, none⟩ = false := keepFr hB2 (by first | omega | (simp; omega) | simp) (by go_simp)
  clear hB2 bl1 z0_1 z1_1 z2_1 zk_1 a0_1 a1_1 c0_1 c1_1 k0_1 r0_1 r1_1 r2_1 r3_1 r4_1 f0_1 f1_1 f2_1 f3_1 f4_1
  go_wp2_with fail
  refine (SR _).out.mono ?_
  rintro e3 w3 ⟨rfl, hB3⟩
  have z2_3 : w.heap.size + 1 + 1 < w3.heap.size := by have := hB3.size; omega
  have bl3 : Below w.heap.size w w3 := bl2.trans (hB3.mono (by omega))
  have z0_3 : w.heap.size < w3.heap.size := by omega
  have z1_3 : w.heap.size + 1 < w3.heap.size := by omega
  have zk_3 : kb < w3.heap.size := by omega
  have a0_3 : w3.cell? ⟨w.heap.size, 0, none⟩ = some (.int .i64 a) := cell_later hB3 (by go_simp)
  have a1_3 : w3.cell? ⟨w.heap.size, 1, none⟩ = some (.int .i64 b) := cell_later hB3 (by go_simp)
  have c0_3 : w3.cell? ⟨w.heap.size + 1, 0, none⟩ = some (.int .i64 c) := cell_later hB3 (by go_simp)
  have c1_3 : w3.cell? ⟨w.heap.size + 1, 1, none⟩ = some (.int .i64 d) := cell_later hB3 (by go_simp)
  have r0_3 : w3.cell? ⟨w.heap.size + 1 + 1, 0, none⟩ = some (.int .i64 0) := cell_later hB3 (by go_simp)
  have r1_3 : w3.cell? ⟨w.heap.size + 1 + 1, 1, none⟩ = some (.int .i64 0) := cell_later hB3 (by go_simp)
  have r2_3 : w3.cell? ⟨w.heap.size + 1 + 1, 2, none⟩ = some (.bool false) := cell_later hB3 (by go_simp)
  have r3_3 : w3.cell? ⟨w.heap.size + 1 + 1, 3, none⟩ = some (.bool false) := cell_later hB3 (by go_simp)
  have r4_3 : w3.cell? ⟨w.heap.size + 1 + 1, 4, none⟩ = some (.bool false) := cell_later hB3 (by go_simp)
  have k0_3 : w3.cell? ⟨kb, 0, none⟩ = some (.int .i64 k) := cell_later hB3 (by go_simp)
  have f0_3 : w3.frozen? ⟨w.heap.size + 1 + 1, 0, none⟩ = false := keepFr hB3 (by first | omega | (simp; omega) | simp) (by go_simp)
  have f1_3 : w3.frozen? ⟨w.heap.size + 1 + 1, 1, none⟩ = false := keepFr hB3 (by first | omega | (simp; omega) | simp) (by go_simp)
  have f2_3 : w3.frozen? ⟨w.heap.size + 1 + 1, 2, none⟩ = false := keepFr hB3 (by first | omega | (simp; omega) | simp) (by go_simp)
  have f3_3 : w3.frozen? ⟨w.heap.size + 1 + 1, 3, none⟩ = false := keepFr hB3 (by first | omega | (simp; omega) | simp) (by go_simp)
  have f4_3 : w3.frozen? ⟨w.heap.size + 1 + 1, 4, none⟩ = false := keepFr hB3 (by first | omega | (simp; omega) | simp) (by go_simp)
  clear hB3 bl2 z0_2 z1_2 z2_2 zk_2 a0_2 a1_2 c0_2 c1_2 k0_2 r0_2 r1_2 r2_2 r3_2 r4_2 f0_2 f1_2 f2_2 f3_2 f4_2
  go_wp2
  refine bodyPost_ret (v := EffV (x) (y) true false false) (by simp [results, Try.results82, go_sem, r0_3, r1_3, r2_3, r3_3, r4_3, EffV]) rfl ⟨rfl, ?_⟩
  exact (((bl3.setCell (by simp; try omega) _).setCell (by simp; try omega) _).setCell (by simp; try omega) _)

set_option maxRecDepth 100000 in
set_option maxHeartbeats 4000000 in
theorem pbitw_1m (a c d k x y : Int) (kb : Nat) (w : World) (hkb : kb < w.heap.size) (hk : w.cell? ⟨kb, 0, none⟩ = some (.int .i64 k)) (S1 : Sing a a true) (S2 : Sing c d false) (G : Gives 85 #[.int .i64 k, .agg #[.int .i64 a, .int .i64 a], .agg #[.int .i64 c, .int .i64 d]] x y) (SR : Sure x y) :
    Calls Try.prog 82 #[.agg #[.int .i64 a, .int .i64 a], .agg #[.int .i64 c, .int .i64 d], .pointer (some ⟨kb, 0, none⟩)] w fun e w' => e = .returned (EffV (x) (y) true false false) ∧ Below w.heap.size w w' := by
  have hk3 : ∀ o1 o2 o3, (((w.alloc o1).alloc o2).alloc o3).cell? ⟨kb, 0, none⟩ = some (.int .i64 k) := by
    intro o1 o2 o3
    rw [((((Below.refl w.heap.size w).alloc (Nat.le_refl _) o1).alloc (by simp) o2).alloc (by simp; omega) o3).cell (p := ⟨kb, 0, none⟩) hkb]
    exact hk
  clear hk
  go_enter Try.func82, Try.ntmps82
  go_wp2_with fail
  refine (S1 _).out.mono ?_
  rintro e1 w1 ⟨rfl, hB1⟩
  have z2_1 : w.heap.size + 1 + 1 < w1.heap.size := by have := hB1.size; simp at this; omega
  have bl1 : Below w.heap.size w w1 := ((((Below.refl _ _).alloc (Nat.le_refl _) _).alloc (by simp) _).alloc (by simp; omega) _).trans (hB1.mono (by simp; omega))
  have z0_1 : w.heap.size < w1.heap.size := by omega
  have z1_1 : w.heap.size + 1 < w1.heap.size := by omega
  have zk_1 : kb < w1.heap.size := by omega
  have a0_1 : w1.cell? ⟨w.heap.size, 0, none⟩ = some (.int .i64 a) := cell_later hB1 (by go_simp)
  have a1_1 : w1.cell? ⟨w.heap.size, 1, none⟩ = some (.int .i64 a) := cell_later hB1 (by go_simp)
  have c0_1 : w1.cell? ⟨w.heap.size + 1, 0, none⟩ = some (.int .i64 c) := cell_later hB1 (by go_simp)
  have c1_1 : w1.cell? ⟨w.heap.size + 1, 1, none⟩ = some (.int .i64 d) := cell_later hB1 (by go_simp)
  have r0_1 : w1.cell? ⟨w.heap.size + 1 + 1, 0, none⟩ = some (.int .i64 0) := cell_later hB1 (by go_simp)
  have r1_1 : w1.cell? ⟨w.heap.size + 1 + 1, 1, none⟩ = some (.int .i64 0) := cell_later hB1 (by go_simp)
  have r2_1 : w1.cell? ⟨w.heap.size + 1 + 1, 2, none⟩ = some (.bool false) := cell_later hB1 (by go_simp)
  have r3_1 : w1.cell? ⟨w.heap.size + 1 + 1, 3, none⟩ = some (.bool false) := cell_later hB1 (by go_simp)
  have r4_1 : w1.cell? ⟨w.heap.size + 1 + 1, 4, none⟩ = some (.bool false) := cell_later hB1 (by go_simp)
  have k0_1 : w1.cell? ⟨kb, 0, none⟩ = some (.int .i64 k) := cell_later hB1 (by go_simp)
  have f0_1 : w1.frozen? ⟨w.heap.size + 1 + 1, 0, none⟩ = false := keepFr hB1 (by first | omega | (simp; omega) | simp) (by go_simp)
  have f1_1 : w1.frozen? ⟨w.heap.size + 1 + 1, 1, none⟩ = false := keepFr hB1 (by first | omega | (simp; omega) | simp) (by go_simp)
  have f2_1 : w1.frozen? ⟨w.heap.size + 1 + 1, 2, none⟩ = false := keepFr hB1 (by first | omega | (simp; omega) | simp) (by go_simp)
  have f3_1 : w1.frozen? ⟨w.heap.size + 1 + 1, 3, none⟩ = false := keepFr hB1 (by first | omega | (simp; omega) | simp) (by go_simp)
  have f4_1 : w1.frozen? ⟨w.heap.size + 1 + 1, 4, none⟩ = false := keepFr hB1 (by first | omega | (simp; omega) | simp) (by go_simp)
  clear hB1
  go_wp2_with fail
  refine (S2 _).out.mono ?_
  rintro e2 w2 ⟨rfl, hB2⟩
  have z2_2 : w.heap.size + 1 + 1 < w2.heap.size := by have := hB2.size; omega
  have bl2 : Below w.heap.size w w2 := bl1.trans (hB2.mono (by omega))
  have z0_2 : w.heap.size < w2.heap.size := by omega
  have z1_2 : w.heap.size + 1 < w2.heap.size := by omega
  have zk_2 : kb < w2.heap.size := by omega
  have a0_2 : w2.cell? ⟨w.heap.size, 0, none⟩ = some (.int .i64 a) := cell_later hB2 (by go_simp)
  have a1_2 : w2.cell? ⟨w.heap.size, 1, none⟩ = some (.int .i64 a) := cell_later hB2 (by go_simp)
  have c0_2 : w2.cell? ⟨w.heap.size + 1, 0, none⟩ = some (.int .i64 c) := cell_later hB2 (by go_simp)
  have c1_2 : w2.cell? ⟨w.heap.size + 1, 1, none⟩ = some (.int .i64 d) := cell_later hB2 (by go_simp)
  have r0_2 : w2.cell? ⟨w.heap.size + 1 + 1, 0, none⟩ = some (.int .i64 0) := cell_later hB2 (by go_simp)
  have r1_2 : w2.cell? ⟨w.heap.size + 1 + 1, 1, none⟩ = some (.int .i64 0) := cell_later hB2 (by go_simp)
  have r2_2 : w2.cell? ⟨w.heap.size + 1 + 1, 2, none⟩ = some (.bool false) := cell_later hB2 (by go_simp)
  have r3_2 : w2.cell? ⟨w.heap.size + 1 + 1, 3, none⟩ = some (.bool false) := cell_later hB2 (by go_simp)
  have r4_2 : w2.cell? ⟨w.heap.size + 1 + 1, 4, none⟩ = some (.bool false) := cell_later hB2 (by go_simp)
  have k0_2 : w2.cell? ⟨kb, 0, none⟩ = some (.int .i64 k) := cell_later hB2 (by go_simp)
  have f0_2 : w2.frozen? ⟨w.heap.size + 1 + 1, 0, none⟩ = false := keepFr hB2 (by first | omega | (simp; omega) | simp) (by go_simp)
  have f1_2 : w2.frozen? ⟨w.heap.size + 1 + 1, 1, none⟩ = false := keepFr hB2 (by first | omega | (simp; omega) | simp) (by go_simp)
  have f2_2 : w2.frozen? ⟨w.heap.size + 1 + 1, 2, none⟩ = false := keepFr hB2 (by first | omega | (simp; omega) | simp) (by go_simp)
  have f3_2 : w2.frozen? ⟨w.heap.size + 1 + 1, 3, none⟩ = false := keepFr hB2 (by first | omega | (simp; omega) | simp) (by go_simp)
  have f4_2 : w2.frozen? ⟨w.heap.size + 1 + 1, 4, none⟩ = false := keepFr hB2 (by first | omega | (simp; omega) | simp) (by go_simp)
  clear hB2 bl1 z0_1 z1_1 z2_1 zk_1 a0_1 a1_1 c0_1 c1_1 k0_1 r0_1 r1_1 r2_1 r3_1 r4_1 f0_1 f1_1 f2_1 f3_1 f4_1
  go_wp2_with fail
  refine (G _).out.mono ?_
  rintro e3 w3 ⟨rfl, hB3⟩
  have z2_3 : w.heap.size + 1 + 1 < w3.heap.size := by have := hB3.size; omega
  have bl3 : Below w.heap.size w w3 := bl2.trans (hB3.mono (by omega))
  have z0_3 : w.heap.size < w3.heap.size := by omega
  have z1_3 : w.heap.size + 1 < w3.heap.size := by omega
  have zk_3 : kb < w3.heap.size := by omega
  have a0_3 : w3.cell? ⟨w.heap.size, 0, none⟩ = some (.int .i64 a) := cell_later hB3 (by go_simp)
  have a1_3 : w3.cell? ⟨w.heap.size, 1, none⟩ = some (.int .i64 a) := cell_later hB3 (by go_simp)
  have c0_3 : w3.cell? ⟨w.heap.size + 1, 0, none⟩ = some (.int .i64 c) := cell_later hB3 (by go_simp)
  have c1_3 : w3.cell? ⟨w.heap.size + 1, 1, none⟩ = some (.int .i64 d) := cell_later hB3 (by go_simp)
  have r0_3 : w3.cell? ⟨w.heap.size + 1 + 1, 0, none⟩ = some (.int .i64 0) := cell_later hB3 (by go_simp)
  have r1_3 : w3.cell? ⟨w.heap.size + 1 + 1, 1, none⟩ = some (.int .i64 0) := cell_later hB3 (by go_simp)
  have r2_3 : w3.cell? ⟨w.heap.size + 1 + 1, 2, none⟩ = some (.bool false) := cell_later hB3 (by go_simp)
  have r3_3 : w3.cell? ⟨w.heap.size + 1 + 1, 3, none⟩ = some (.bool false) := cell_later hB3 (by go_simp)
  have r4_3 : w3.cell? ⟨w.heap.size + 1 + 1, 4, none⟩ = some (.bool false) := cell_later hB3 (by go_simp)
  have k0_3 : w3.cell? ⟨kb, 0, none⟩ = some (.int .i64 k) := cell_later hB3 (by go_simp)
  have f0_3 : w3.frozen? ⟨w.heap.size + 1 + 1, 0, none⟩ = false := keepFr hB3 (by first | omega | (simp; omega) | simp) (by go_simp)
  have f1_3 : w3.frozen? ⟨w.heap.size + 1 + 1, 1, none⟩ = false := keepFr hB3 (by first | omega | (simp; omega) | simp) (by go_simp)
  have f2_3 : w3.frozen? ⟨w.heap.size + 1 + 1, 2, none⟩ = false := keepFr hB3 (by first | omega | (simp; omega) | simp) (by go_simp)
  have f3_3 : w3.frozen? ⟨w.heap.size + 1 + 1, 3, none⟩ = false := keepFr hB3 (by first | omega | (simp; omega) | simp) (by go_simp)
  have f4_3 : w3.frozen? ⟨w.heap.size + 1 + 1, 4, none⟩ = false := keepFr hB3 (by first | omega | (simp; omega) | simp) (by go_simp)
  clear hB3 bl2 z0_2 z1_2 z2_2 zk_2 a0_2 a1_2 c0_2 c1_2 k0_2 r0_2 r1_2 r2_2 r3_2 r4_2 f0_2 f1_2 f2_2 f3_2 f4_2
  go_wp2_with fail
  refine (SR _).out.mono ?_
  rintro e4 w4 ⟨rfl, hB4⟩
  have z2_4 : w.heap.size + 1 + 1 < w4.heap.size := by have := hB4.size; omega
  have bl4 : Below w.heap.size w w4 := bl3.trans (hB4.mono (by omega))
  have z0_4 : w.heap.size < w4.heap.size := by omega
  have z1_4 : w.heap.size + 1 < w4.heap.size := by omega
  have zk_4 : kb < w4.heap.size := by omega
  have a0_4 : w4.cell? ⟨w.heap.size, 0, none⟩ = some (.int .i64 a) := cell_later hB4 (by go_simp)
  have a1_4 : w4.cell? ⟨w.heap.size, 1, none⟩ = some (.int .i64 a) := cell_later hB4 (by go_simp)
  have c0_4 : w4.cell? ⟨w.heap.size + 1, 0, none⟩ = some (.int .i64 c) := cell_later hB4 (by go_simp)
  have c1_4 : w4.cell? ⟨w.heap.size + 1, 1, none⟩ = some (.int .i64 d) := cell_later hB4 (by go_simp)
  have r0_4 : w4.cell? ⟨w.heap.size + 1 + 1, 0, none⟩ = some (.int .i64 0) := cell_later hB4 (by go_simp)
  have r1_4 : w4.cell? ⟨w.heap.size + 1 + 1, 1, none⟩ = some (.int .i64 0) := cell_later hB4 (by go_simp)
  have r2_4 : w4.cell? ⟨w.heap.size + 1 + 1, 2, none⟩ = some (.bool false) := cell_later hB4 (by go_simp)
  have r3_4 : w4.cell? ⟨w.heap.size + 1 + 1, 3, none⟩ = some (.bool false) := cell_later hB4 (by go_simp)
  have r4_4 : w4.cell? ⟨w.heap.size + 1 + 1, 4, none⟩ = some (.bool false) := cell_later hB4 (by go_simp)
  have k0_4 : w4.cell? ⟨kb, 0, none⟩ = some (.int .i64 k) := cell_later hB4 (by go_simp)
  have f0_4 : w4.frozen? ⟨w.heap.size + 1 + 1, 0, none⟩ = false := keepFr hB4 (by first | omega | (simp; omega) | simp) (by go_simp)
  have f1_4 : w4.frozen? ⟨w.heap.size + 1 + 1, 1, none⟩ = false := keepFr hB4 (by first | omega | (simp; omega) | simp) (by go_simp)
  have f2_4 : w4.frozen? ⟨w.heap.size + 1 + 1, 2, none⟩ = false := keepFr hB4 (by first | omega | (simp; omega) | simp) (by go_simp)
  have f3_4 : w4.frozen? ⟨w.heap.size + 1 + 1, 3, none⟩ = false := keepFr hB4 (by first | omega | (simp; omega) | simp) (by go_simp)
  have f4_4 : w4.frozen? ⟨w.heap.size + 1 + 1, 4, none⟩ = false := keepFr hB4 (by first | omega | (simp; omega) | simp) (by go_simp)
  clear hB4 bl3 z0_3 z1_3 z2_3 zk_3 a0_3 a1_3 c0_3 c1_3 k0_3 r0_3 r1_3 r2_3 r3_3 r4_3 f0_3 f1_3 f2_3 f3_3 f4_3
  go_wp2
  refine bodyPost_ret (v := EffV (x) (y) true false false) (by simp [results, Try.results82, go_sem, r0_4, r1_4, r2_4, r3_4, r4_4, EffV]) rfl ⟨rfl, ?_⟩
  exact (((bl4.setCell (by simp; try omega) _).setCell (by simp; try omega) _).setCell (by simp; try omega) _)

set_option maxRecDepth 100000 in
set_option maxHeartbeats 4000000 in
theorem pbitw_2s (a c k : Int) (kb : Nat) (w : World) (hkb : kb < w.heap.size) (hk : w.cell? ⟨kb, 0, none⟩ = some (.int .i64 k)) (S1 : Sing a a true) (S2 : Sing c c true) (ON : Only (bits .xor .i64 a c)) :
    Calls Try.prog 86 #[.agg #[.int .i64 a, .int .i64 a], .agg #[.int .i64 c, .int .i64 c], .pointer (some ⟨kb, 0, none⟩)] w fun e w' => e = .returned (EffV (bits .xor .i64 a c) (bits .xor .i64 a c) true false false) ∧ Below w.heap.size w w' := by
  have hk3 : ∀ o1 o2 o3, (((w.alloc o1).alloc o2).alloc o3).cell? ⟨kb, 0, none⟩ = some (.int .i64 k) := by
    intro o1 o2 o3
    rw [((((Below.refl w.heap.size w).alloc (Nat.le_refl _) o1).alloc (by simp) o2).alloc (by simp; omega) o3).cell (p := ⟨kb, 0, none⟩) hkb]
    exact hk
  clear hk
  go_enter Try.func86, Try.ntmps86
  go_wp2_with fail
  refine (S1 _).out.mono ?_
  rintro e1 w1 ⟨rfl, hB1⟩
  have z2_1 : w.heap.size + 1 + 1 < w1.heap.size := by have := hB1.size; simp at this; omega
  have bl1 : Below w.heap.size w w1 := ((((Below.refl _ _).alloc (Nat.le_refl _) _).alloc (by simp) _).alloc (by simp; omega) _).trans (hB1.mono (by simp; omega))
  have z0_1 : w.heap.size < w1.heap.size := by omega
  have z1_1 : w.heap.size + 1 < w1.heap.size := by omega
  have zk_1 : kb < w1.heap.size := by omega
  have a0_1 : w1.cell? ⟨w.heap.size, 0, none⟩ = some (.int .i64 a) := cell_later hB1 (by go_simp)
  have a1_1 : w1.cell? ⟨w.heap.size, 1, none⟩ = some (.int .i64 a) := cell_later hB1 (by go_simp)
  have c0_1 : w1.cell? ⟨w.heap.size + 1, 0, none⟩ = some (.int .i64 c) := cell_later hB1 (by go_simp)
  have c1_1 : w1.cell? ⟨w.heap.size + 1, 1, none⟩ = some (.int .i64 c) := cell_later hB1 (by go_simp)
  have r0_1 : w1.cell? ⟨w.heap.size + 1 + 1, 0, none⟩ = some (.int .i64 0) := cell_later hB1 (by go_simp)
  have r1_1 : w1.cell? ⟨w.heap.size + 1 + 1, 1, none⟩ = some (.int .i64 0) := cell_later hB1 (by go_simp)
  have r2_1 : w1.cell? ⟨w.heap.size + 1 + 1, 2, none⟩ = some (.bool false) := cell_later hB1 (by go_simp)
  have r3_1 : w1.cell? ⟨w.heap.size + 1 + 1, 3, none⟩ = some (.bool false) := cell_later hB1 (by go_simp)
  have r4_1 : w1.cell? ⟨w.heap.size + 1 + 1, 4, none⟩ = some (.bool false) := cell_later hB1 (by go_simp)
  have k0_1 : w1.cell? ⟨kb, 0, none⟩ = some (.int .i64 k) := cell_later hB1 (by go_simp)
  have f0_1 : w1.frozen? ⟨w.heap.size + 1 + 1, 0, none⟩ = false := keepFr hB1 (by first | omega | (simp; omega) | simp) (by go_simp)
  have f1_1 : w1.frozen? ⟨w.heap.size + 1 + 1, 1, none⟩ = false := keepFr hB1 (by first | omega | (simp; omega) | simp) (by go_simp)
  have f2_1 : w1.frozen? ⟨w.heap.size + 1 + 1, 2, none⟩ = false := keepFr hB1 (by first | omega | (simp; omega) | simp) (by go_simp)
  have f3_1 : w1.frozen? ⟨w.heap.size + 1 + 1, 3, none⟩ = false := keepFr hB1 (by first | omega | (simp; omega) | simp) (by go_simp)
  have f4_1 : w1.frozen? ⟨w.heap.size + 1 + 1, 4, none⟩ = false := keepFr hB1 (by first | omega | (simp; omega) | simp) (by go_simp)
  clear hB1
  go_wp2_with fail
  refine (S2 _).out.mono ?_
  rintro e2 w2 ⟨rfl, hB2⟩
  have z2_2 : w.heap.size + 1 + 1 < w2.heap.size := by have := hB2.size; omega
  have bl2 : Below w.heap.size w w2 := bl1.trans (hB2.mono (by omega))
  have z0_2 : w.heap.size < w2.heap.size := by omega
  have z1_2 : w.heap.size + 1 < w2.heap.size := by omega
  have zk_2 : kb < w2.heap.size := by omega
  have a0_2 : w2.cell? ⟨w.heap.size, 0, none⟩ = some (.int .i64 a) := cell_later hB2 (by go_simp)
  have a1_2 : w2.cell? ⟨w.heap.size, 1, none⟩ = some (.int .i64 a) := cell_later hB2 (by go_simp)
  have c0_2 : w2.cell? ⟨w.heap.size + 1, 0, none⟩ = some (.int .i64 c) := cell_later hB2 (by go_simp)
  have c1_2 : w2.cell? ⟨w.heap.size + 1, 1, none⟩ = some (.int .i64 c) := cell_later hB2 (by go_simp)
  have r0_2 : w2.cell? ⟨w.heap.size + 1 + 1, 0, none⟩ = some (.int .i64 0) := cell_later hB2 (by go_simp)
  have r1_2 : w2.cell? ⟨w.heap.size + 1 + 1, 1, none⟩ = some (.int .i64 0) := cell_later hB2 (by go_simp)
  have r2_2 : w2.cell? ⟨w.heap.size + 1 + 1, 2, none⟩ = some (.bool false) := cell_later hB2 (by go_simp)
  have r3_2 : w2.cell? ⟨w.heap.size + 1 + 1, 3, none⟩ = some (.bool false) := cell_later hB2 (by go_simp)
  have r4_2 : w2.cell? ⟨w.heap.size + 1 + 1, 4, none⟩ = some (.bool false) := cell_later hB2 (by go_simp)
  have k0_2 : w2.cell? ⟨kb, 0, none⟩ = some (.int .i64 k) := cell_later hB2 (by go_simp)
  have f0_2 : w2.frozen? ⟨w.heap.size + 1 + 1, 0, none⟩ = false := keepFr hB2 (by first | omega | (simp; omega) | simp) (by go_simp)
  have f1_2 : w2.frozen? ⟨w.heap.size + 1 + 1, 1, none⟩ = false := keepFr hB2 (by first | omega | (simp; omega) | simp) (by go_simp)
  have f2_2 : w2.frozen? ⟨w.heap.size + 1 + 1, 2, none⟩ = false := keepFr hB2 (by first | omega | (simp; omega) | simp) (by go_simp)
  have f3_2 : w2.frozen? ⟨w.heap.size + 1 + 1, 3, none⟩ = false := keepFr hB2 (by first | omega | (simp; omega) | simp) (by go_simp)
  have f4_2 : w2.frozen? ⟨w.heap.size + 1 + 1, 4, none⟩ = false := keepFr hB2 (by first | omega | (simp; omega) | simp) (by go_simp)
  clear hB2 bl1 z0_1 z1_1 z2_1 zk_1 a0_1 a1_1 c0_1 c1_1 k0_1 r0_1 r1_1 r2_1 r3_1 r4_1 f0_1 f1_1 f2_1 f3_1 f4_1
  go_wp2_with fail
  refine (ON _).out.mono ?_
  rintro e3 w3 ⟨rfl, hB3⟩
  have z2_3 : w.heap.size + 1 + 1 < w3.heap.size := by have := hB3.size; omega
  have bl3 : Below w.heap.size w w3 := bl2.trans (hB3.mono (by omega))
  have z0_3 : w.heap.size < w3.heap.size := by omega
  have z1_3 : w.heap.size + 1 < w3.heap.size := by omega
  have zk_3 : kb < w3.heap.size := by omega
  have a0_3 : w3.cell? ⟨w.heap.size, 0, none⟩ = some (.int .i64 a) := cell_later hB3 (by go_simp)
  have a1_3 : w3.cell? ⟨w.heap.size, 1, none⟩ = some (.int .i64 a) := cell_later hB3 (by go_simp)
  have c0_3 : w3.cell? ⟨w.heap.size + 1, 0, none⟩ = some (.int .i64 c) := cell_later hB3 (by go_simp)
  have c1_3 : w3.cell? ⟨w.heap.size + 1, 1, none⟩ = some (.int .i64 c) := cell_later hB3 (by go_simp)
  have r0_3 : w3.cell? ⟨w.heap.size + 1 + 1, 0, none⟩ = some (.int .i64 0) := cell_later hB3 (by go_simp)
  have r1_3 : w3.cell? ⟨w.heap.size + 1 + 1, 1, none⟩ = some (.int .i64 0) := cell_later hB3 (by go_simp)
  have r2_3 : w3.cell? ⟨w.heap.size + 1 + 1, 2, none⟩ = some (.bool false) := cell_later hB3 (by go_simp)
  have r3_3 : w3.cell? ⟨w.heap.size + 1 + 1, 3, none⟩ = some (.bool false) := cell_later hB3 (by go_simp)
  have r4_3 : w3.cell? ⟨w.heap.size + 1 + 1, 4, none⟩ = some (.bool false) := cell_later hB3 (by go_simp)
  have k0_3 : w3.cell? ⟨kb, 0, none⟩ = some (.int .i64 k) := cell_later hB3 (by go_simp)
  have f0_3 : w3.frozen? ⟨w.heap.size + 1 + 1, 0, none⟩ = false := keepFr hB3 (by first | omega | (simp; omega) | simp) (by go_simp)
  have f1_3 : w3.frozen? ⟨w.heap.size + 1 + 1, 1, none⟩ = false := keepFr hB3 (by first | omega | (simp; omega) | simp) (by go_simp)
  have f2_3 : w3.frozen? ⟨w.heap.size + 1 + 1, 2, none⟩ = false := keepFr hB3 (by first | omega | (simp; omega) | simp) (by go_simp)
  have f3_3 : w3.frozen? ⟨w.heap.size + 1 + 1, 3, none⟩ = false := keepFr hB3 (by first | omega | (simp; omega) | simp) (by go_simp)
  have f4_3 : w3.frozen? ⟨w.heap.size + 1 + 1, 4, none⟩ = false := keepFr hB3 (by first | omega | (simp; omega) | simp) (by go_simp)
  clear hB3 bl2 z0_2 z1_2 z2_2 zk_2 a0_2 a1_2 c0_2 c1_2 k0_2 r0_2 r1_2 r2_2 r3_2 r4_2 f0_2 f1_2 f2_2 f3_2 f4_2
  go_wp2
  refine bodyPost_ret (v := EffV (bits .xor .i64 a c) (bits .xor .i64 a c) true false false) (by simp [results, Try.results86, go_sem, r0_3, r1_3, r2_3, r3_3, r4_3, EffV]) rfl ⟨rfl, ?_⟩
  exact (((bl3.setCell (by simp; try omega) _).setCell (by simp; try omega) _).setCell (by simp; try omega) _)

set_option maxRecDepth 100000 in
set_option maxHeartbeats 4000000 in
theorem pbitw_2n (a b c d k x y : Int) (kb : Nat) (w : World) (hkb : kb < w.heap.size) (hk : w.cell? ⟨kb, 0, none⟩ = some (.int .i64 k)) (S1 : Sing a b false) (G : Gives 87 #[.int .i64 k, .int .i64 0, .agg #[.int .i64 a, .int .i64 b], .agg #[.int .i64 c, .int .i64 d]] x y) (SR : Sure x y) :
    Calls Try.prog 86 #[.agg #[.int .i64 a, .int .i64 b], .agg #[.int .i64 c, .int .i64 d], .pointer (some ⟨kb, 0, none⟩)] w fun e w' => e = .returned (EffV (x) (y) true false false) ∧ Below w.heap.size w w' := by
  have hk3 : ∀ o1 o2 o3, (((w.alloc o1).alloc o2).alloc o3).cell? ⟨kb, 0, none⟩ = some (.int .i64 k) := by
    intro o1 o2 o3
    rw [((((Below.refl w.heap.size w).alloc (Nat.le_refl _) o1).alloc (by simp) o2).alloc (by simp; omega) o3).cell (p := ⟨kb, 0, none⟩) hkb]
    exact hk
  clear hk
  go_enter Try.func86, Try.ntmps86
  go_wp2_with fail
  refine (S1 _).out.mono ?_
  rintro e1 w1 ⟨rfl, hB1⟩
  have z2_1 : w.heap.size + 1 + 1 < w1.heap.size := by have := hB1.size; simp at this; omega
  have bl1 : Below w.heap.size w w1 := ((((Below.refl _ _).alloc (Nat.le_refl _) _).alloc (by simp) _).alloc (by simp; omega) _).trans (hB1.mono (by simp; omega))
  have z0_1 : w.heap.size < w1.heap.size := by omega
  have z1_1 : w.heap.size + 1 < w1.heap.size := by omega
  have zk_1 : kb < w1.heap.size := by omega
  have a0_1 : w1.cell? ⟨w.heap.size, 0, none⟩ = some (.int .i64 a) := cell_later hB1 (by go_simp)
  have a1_1 : w1.cell? ⟨w.heap.size, 1, none⟩ = some (.int .i64 b) := cell_later hB1 (by go_simp)
  have c0_1 : w1.cell? ⟨w.heap.size + 1, 0, none⟩ = some (.int .i64 c) := cell_later hB1 (by go_simp)
  have c1_1 : w1.cell? ⟨w.heap.size + 1, 1, none⟩ = some (.int .i64 d) := cell_later hB1 (by go_simp)
  have r0_1 : w1.cell? ⟨w.heap.size + 1 + 1, 0, none⟩ = some (.int .i64 0) := cell_later hB1 (by go_simp)
  have r1_1 : w1.cell? ⟨w.heap.size + 1 + 1, 1, none⟩ = some (.int .i64 0) := cell_later hB1 (by go_simp)
  have r2_1 : w1.cell? ⟨w.heap.size + 1 + 1, 2, none⟩ = some (.bool false) := cell_later hB1 (by go_simp)
  have r3_1 : w1.cell? ⟨w.heap.size + 1 + 1, 3, none⟩ = some (.bool false) := cell_later hB1 (by go_simp)
  have r4_1 : w1.cell? ⟨w.heap.size + 1 + 1, 4, none⟩ = some (.bool false) := cell_later hB1 (by go_simp)
  have k0_1 : w1.cell? ⟨kb, 0, none⟩ = some (.int .i64 k) := cell_later hB1 (by go_simp)
  have f0_1 : w1.frozen? ⟨w.heap.size + 1 + 1, 0, none⟩ = false := keepFr hB1 (by first | omega | (simp; omega) | simp) (by go_simp)
  have f1_1 : w1.frozen? ⟨w.heap.size + 1 + 1, 1, none⟩ = false := keepFr hB1 (by first | omega | (simp; omega) | simp) (by go_simp)
  have f2_1 : w1.frozen? ⟨w.heap.size + 1 + 1, 2, none⟩ = false := keepFr hB1 (by first | omega | (simp; omega) | simp) (by go_simp)
  have f3_1 : w1.frozen? ⟨w.heap.size + 1 + 1, 3, none⟩ = false := keepFr hB1 (by first | omega | (simp; omega) | simp) (by go_simp)
  have f4_1 : w1.frozen? ⟨w.heap.size + 1 + 1, 4, none⟩ = false := keepFr hB1 (by first | omega | (simp; omega) | simp) (by go_simp)
  clear hB1
  go_wp2_with fail
  refine (G _).out.mono ?_
  rintro e2 w2 ⟨rfl, hB2⟩
  have z2_2 : w.heap.size + 1 + 1 < w2.heap.size := by have := hB2.size; omega
  have bl2 : Below w.heap.size w w2 := bl1.trans (hB2.mono (by omega))
  have z0_2 : w.heap.size < w2.heap.size := by omega
  have z1_2 : w.heap.size + 1 < w2.heap.size := by omega
  have zk_2 : kb < w2.heap.size := by omega
  have a0_2 : w2.cell? ⟨w.heap.size, 0, none⟩ = some (.int .i64 a) := cell_later hB2 (by go_simp)
  have a1_2 : w2.cell? ⟨w.heap.size, 1, none⟩ = some (.int .i64 b) := cell_later hB2 (by go_simp)
  have c0_2 : w2.cell? ⟨w.heap.size + 1, 0, none⟩ = some (.int .i64 c) := cell_later hB2 (by go_simp)
  have c1_2 : w2.cell? ⟨w.heap.size + 1, 1, none⟩ = some (.int .i64 d) := cell_later hB2 (by go_simp)
  have r0_2 : w2.cell? ⟨w.heap.size + 1 + 1, 0, none⟩ = some (.int .i64 0) := cell_later hB2 (by go_simp)
  have r1_2 : w2.cell? ⟨w.heap.size + 1 + 1, 1, none⟩ = some (.int .i64 0) := cell_later hB2 (by go_simp)
  have r2_2 : w2.cell? ⟨w.heap.size + 1 + 1, 2, none⟩ = some (.bool false) := cell_later hB2 (by go_simp)
  have r3_2 : w2.cell? ⟨w.heap.size + 1 + 1, 3, none⟩ = some (.bool false) := cell_later hB2 (by go_simp)
  have r4_2 : w2.cell? ⟨w.heap.size + 1 + 1, 4, none⟩ = some (.bool false) := cell_later hB2 (by go_simp)
  have k0_2 : w2.cell? ⟨kb, 0, none⟩ = some (.int .i64 k) := cell_later hB2 (by go_simp)
  have f0_2 : w2.frozen? ⟨w.heap.size + 1 + 1, 0, none⟩ = false := keepFr hB2 (by first | omega | (simp; omega) | simp) (by go_simp)
  have f1_2 : w2.frozen? ⟨w.heap.size + 1 + 1, 1, none⟩ = false := keepFr hB2 (by first | omega | (simp; omega) | simp) (by go_simp)
  have f2_2 : w2.frozen? ⟨w.heap.size + 1 + 1, 2, none⟩ = false := keepFr hB2 (by first | omega | (simp; omega) | simp) (by go_simp)
  have f3_2 : w2.frozen? ⟨w.heap.size + 1 + 1, 3, none⟩ = false := keepFr hB2 (by first | omega | (simp; omega) | simp) (by go_simp)
  have f4_2 : w2.frozen? ⟨w.heap.size + 1 + 1, 4, none⟩ = false := keepFr hB2 (by first | omega | (simp; omega) | simp) (by go_simp)
  clear hB2 bl1 z0_1 z1_1 z2_1 zk_1 a0_1 a1_1 c0_1 c1_1 k0_1 r0_1 r1_1 r2_1 r3_1 r4_1 f0_1 f1_1 f2_1 f3_1 f4_1
  go_wp2_with fail
  refine (SR _).out.mono ?_
  rintro e3 w3 ⟨rfl, hB3⟩
  have z2_3 : w.heap.size + 1 + 1 < w3.heap.size := by have := hB3.size; omega
  have bl3 : Below w.heap.size w w3 := bl2.trans (hB3.mono (by omega))
  have z0_3 : w.heap.size < w3.heap.size := by omega
  have z1_3 : w.heap.size + 1 < w3.heap.size := by omega
  have zk_3 : kb < w3.heap.size := by omega
  have a0_3 : w3.cell? ⟨w.heap.size, 0, none⟩ = some (.int .i64 a) := cell_later hB3 (by go_simp)
  have a1_3 : w3.cell? ⟨w.heap.size, 1, none⟩ = some (.int .i64 b) := cell_later hB3 (by go_simp)
  have c0_3 : w3.cell? ⟨w.heap.size + 1, 0, none⟩ = some (.int .i64 c) := cell_later hB3 (by go_simp)
  have c1_3 : w3.cell? ⟨w.heap.size + 1, 1, none⟩ = some (.int .i64 d) := cell_later hB3 (by go_simp)
  have r0_3 : w3.cell? ⟨w.heap.size + 1 + 1, 0, none⟩ = some (.int .i64 0) := cell_later hB3 (by go_simp)
  have r1_3 : w3.cell? ⟨w.heap.size + 1 + 1, 1, none⟩ = some (.int .i64 0) := cell_later hB3 (by go_simp)
  have r2_3 : w3.cell? ⟨w.heap.size + 1 + 1, 2, none⟩ = some (.bool false) := cell_later hB3 (by go_simp)
  have r3_3 : w3.cell? ⟨w.heap.size + 1 + 1, 3, none⟩ = some (.bool false) := cell_later hB3 (by go_simp)
  have r4_3 : w3.cell? ⟨w.heap.size + 1 + 1, 4, none⟩ = some (.bool false) := cell_later hB3 (by go_simp)
  have k0_3 : w3.cell? ⟨kb, 0, none⟩ = some (.int .i64 k) := cell_later hB3 (by go_simp)
  have f0_3 : w3.frozen? ⟨w.heap.size + 1 + 1, 0, none⟩ = false := keepFr hB3 (by first | omega | (simp; omega) | simp) (by go_simp)
  have f1_3 : w3.frozen? ⟨w.heap.size + 1 + 1, 1, none⟩ = false := keepFr hB3 (by first | omega | (simp; omega) | simp) (by go_simp)
  have f2_3 : w3.frozen? ⟨w.heap.size + 1 + 1, 2, none⟩ = false := keepFr hB3 (by first | omega | (simp; omega) | simp) (by go_simp)
  have f3_3 : w3.frozen? ⟨w.heap.size + 1 + 1, 3, none⟩ = false := keepFr hB3 (by first | omega | (simp; omega) | simp) (by go_simp)
  have f4_3 : w3.frozen? ⟨w.heap.size + 1 + 1, 4, none⟩ = false := keepFr hB3 (by first | omega | (simp; omega) | simp) (by go_simp)
  clear hB3 bl2 z0_2 z1_2 z2_2 zk_2 a0_2 a1_2 c0_2 c1_2 k0_2 r0_2 r1_2 r2_2 r3_2 r4_2 f0_2 f1_2 f2_2 f3_2 f4_2
  go_wp2
  refine bodyPost_ret (v := EffV (x) (y) true false false) (by simp [results, Try.results86, go_sem, r0_3, r1_3, r2_3, r3_3, r4_3, EffV]) rfl ⟨rfl, ?_⟩
  exact (((bl3.setCell (by simp; try omega) _).setCell (by simp; try omega) _).setCell (by simp; try omega) _)

set_option maxRecDepth 100000 in
set_option maxHeartbeats 4000000 in
theorem pbitw_2m (a c d k x y : Int) (kb : Nat) (w : World) (hkb : kb < w.heap.size) (hk : w.cell? ⟨kb, 0, none⟩ = some (.int .i64 k)) (S1 : Sing a a true) (S2 : Sing c d false) (G : Gives 87 #[.int .i64 k, .int .i64 0, .agg #[.int .i64 a, .int .i64 a], .agg #[.int .i64 c, .int .i64 d]] x y) (SR : Sure x y) :
    Calls Try.prog 86 #[.agg #[.int .i64 a, .int .i64 a], .agg #[.int .i64 c, .int .i64 d], .pointer (some ⟨kb, 0, none⟩)] w fun e w' => e = .returned (EffV (x) (y) true false false) ∧ Below w.heap.size w w' := by
  have hk3 : ∀ o1 o2 o3, (((w.alloc o1).alloc o2).alloc o3).cell? ⟨kb, 0, none⟩ = some (.int .i64 k) := by
    intro o1 o2 o3
    rw [((((Below.refl w.heap.size w).alloc (Nat.le_refl _) o1).alloc (by simp) o2).alloc (by simp; omega) o3).cell (p := ⟨kb, 0, none⟩) hkb]
    exact hk
  clear hk
  go_enter Try.func86, Try.ntmps86
  go_wp2_with fail
  refine (S1 _).out.mono ?_
  rintro e1 w1 ⟨rfl, hB1⟩
  have z2_1 : w.heap.size + 1 + 1 < w1.heap.size := by have := hB1.size; simp at this; omega
  have bl1 : Below w.heap.size w w1 := ((((Below.refl _ _).alloc (Nat.le_refl _) _).alloc (by simp) _).alloc (by simp; omega) _).trans (hB1.mono (by simp; omega))
  have z0_1 : w.heap.size < w1.heap.size := by omega
  have z1_1 : w.heap.size + 1 < w1.heap.size := by omega
  have zk_1 : kb < w1.heap.size := by omega
  have a0_1 : w1.cell? ⟨w.heap.size, 0, none⟩ = some (.int .i64 a) := cell_later hB1 (by go_simp)
  have a1_1 : w1.cell? ⟨w.heap.size, 1, none⟩ = some (.int .i64 a) := cell_later hB1 (by go_simp)
  have c0_1 : w1.cell? ⟨w.heap.size + 1, 0, none⟩ = some (.int .i64 c) := cell_later hB1 (by go_simp)
  have c1_1 : w1.cell? ⟨w.heap.size + 1, 1, none⟩ = some (.int .i64 d) := cell_later hB1 (by go_simp)
  have r0_1 : w1.cell? ⟨w.heap.size + 1 + 1, 0, none⟩ = some (.int .i64 0) := cell_later hB1 (by go_simp)
  have r1_1 : w1.cell? ⟨w.heap.size + 1 + 1, 1, none⟩ = some (.int .i64 0) := cell_later hB1 (by go_simp)
  have r2_1 : w1.cell? ⟨w.heap.size + 1 + 1, 2, none⟩ = some (.bool false) := cell_later hB1 (by go_simp)
  have r3_1 : w1.cell? ⟨w.heap.size + 1 + 1, 3, none⟩ = some (.bool false) := cell_later hB1 (by go_simp)
  have r4_1 : w1.cell? ⟨w.heap.size + 1 + 1, 4, none⟩ = some (.bool false) := cell_later hB1 (by go_simp)
  have k0_1 : w1.cell? ⟨kb, 0, none⟩ = some (.int .i64 k) := cell_later hB1 (by go_simp)
  have f0_1 : w1.frozen? ⟨w.heap.size + 1 + 1, 0, none⟩ = false := keepFr hB1 (by first | omega | (simp; omega) | simp) (by go_simp)
  have f1_1 : w1.frozen? ⟨w.heap.size + 1 + 1, 1, none⟩ = false := keepFr hB1 (by first | omega | (simp; omega) | simp) (by go_simp)
  have f2_1 : w1.frozen? ⟨w.heap.size + 1 + 1, 2, none⟩ = false := keepFr hB1 (by first | omega | (simp; omega) | simp) (by go_simp)
  have f3_1 : w1.frozen? ⟨w.heap.size + 1 + 1, 3, none⟩ = false := keepFr hB1 (by first | omega | (simp; omega) | simp) (by go_simp)
  have f4_1 : w1.frozen? ⟨w.heap.size + 1 + 1, 4, none⟩ = false := keepFr hB1 (by first | omega | (simp; omega) | simp) (by go_simp)
  clear hB1
  go_wp2_with fail
  refine (S2 _).out.mono ?_
  rintro e2 w2 ⟨rfl, hB2⟩
  have z2_2 : w.heap.size + 1 + 1 < w2.heap.size := by have := hB2.size; omega
  have bl2 : Below w.heap.size w w2 := bl1.trans (hB2.mono (by omega))
  have z0_2 : w.heap.size < w2.heap.size := by omega
  have z1_2 : w.heap.size + 1 < w2.heap.size := by omega
  have zk_2 : kb < w2.heap.size := by omega
  have a0_2 : w2.cell? ⟨w.heap.size, 0, none⟩ = some (.int .i64 a) := cell_later hB2 (by go_simp)
  have a1_2 : w2.cell? ⟨w.heap.size, 1, none⟩ = some (.int .i64 a) := cell_later hB2 (by go_simp)
  have c0_2 : w2.cell? ⟨w.heap.size + 1, 0, none⟩ = some (.int .i64 c) := cell_later hB2 (by go_simp)
  have c1_2 : w2.cell? ⟨w.heap.size + 1, 1, none⟩ = some (.int .i64 d) := cell_later hB2 (by go_simp)
  have r0_2 : w2.cell? ⟨w.heap.size + 1 + 1, 0, none⟩ = some (.int .i64 0) := cell_later hB2 (by go_simp)
  have r1_2 : w2.cell? ⟨w.heap.size + 1 + 1, 1, none⟩ = some (.int .i64 0) := cell_later hB2 (by go_simp)
  have r2_2 : w2.cell? ⟨w.heap.size + 1 + 1, 2, none⟩ = some (.bool false) := cell_later hB2 (by go_simp)
  have r3_2 : w2.cell? ⟨w.heap.size + 1 + 1, 3, none⟩ = some (.bool false) := cell_later hB2 (by go_simp)
  have r4_2 : w2.cell? ⟨w.heap.size + 1 + 1, 4, none⟩ = some (.bool false) := cell_later hB2 (by go_simp)
  have k0_2 : w2.cell? ⟨kb, 0, none⟩ = some (.int .i64 k) := cell_later hB2 (by go_simp)
  have f0_2 : w2.frozen? ⟨w.heap.size + 1 + 1, 0, none⟩ = false := keepFr hB2 (by first | omega | (simp; omega) | simp) (by go_simp)
  have f1_2 : w2.frozen? ⟨w.heap.size + 1 + 1, 1, none⟩ = false := keepFr hB2 (by first | omega | (simp; omega) | simp) (by go_simp)
  have f2_2 : w2.frozen? ⟨w.heap.size + 1 + 1, 2, none⟩ = false := keepFr hB2 (by first | omega | (simp; omega) | simp) (by go_simp)
  have f3_2 : w2.frozen? ⟨w.heap.size + 1 + 1, 3, none⟩ = false := keepFr hB2 (by first | omega | (simp; omega) | simp) (by go_simp)
  have f4_2 : w2.frozen? ⟨w.heap.size + 1 + 1, 4, none⟩ = false := keepFr hB2 (by first | omega | (simp; omega) | simp) (by go_simp)
  clear hB2 bl1 z0_1 z1_1 z2_1 zk_1 a0_1 a1_1 c0_1 c1_1 k0_1 r0_1 r1_1 r2_1 r3_1 r4_1 f0_1 f1_1 f2_1 f3_1 f4_1
  go_wp2_with fail
  refine (G _).out.mono ?_
  rintro e3 w3 ⟨rfl, hB3⟩
  have z2_3 : w.heap.size + 1 + 1 < w3.heap.size := by have := hB3.size; omega
  have bl3 : Below w.heap.size w w3 := bl2.trans (hB3.mono (by omega))
  have z0_3 : w.heap.size < w3.heap.size := by omega
  have z1_3 : w.heap.size + 1 < w3.heap.size := by omega
  have zk_3 : kb < w3.heap.size := by omega
  have a0_3 : w3.cell? ⟨w.heap.size, 0, none⟩ = some (.int .i64 a) := cell_later hB3 (by go_simp)
  have a1_3 : w3.cell? ⟨w.heap.size, 1, none⟩ = some (.int .i64 a) := cell_later hB3 (by go_simp)
  have c0_3 : w3.cell? ⟨w.heap.size + 1, 0, none⟩ = some (.int .i64 c) := cell_later hB3 (by go_simp)
  have c1_3 : w3.cell? ⟨w.heap.size + 1, 1, none⟩ = some (.int .i64 d) := cell_later hB3 (by go_simp)
  have r0_3 : w3.cell? ⟨w.heap.size + 1 + 1, 0, none⟩ = some (.int .i64 0) := cell_later hB3 (by go_simp)
  have r1_3 : w3.cell? ⟨w.heap.size + 1 + 1, 1, none⟩ = some (.int .i64 0) := cell_later hB3 (by go_simp)
  have r2_3 : w3.cell? ⟨w.heap.size + 1 + 1, 2, none⟩ = some (.bool false) := cell_later hB3 (by go_simp)
  have r3_3 : w3.cell? ⟨w.heap.size + 1 + 1, 3, none⟩ = some (.bool false) := cell_later hB3 (by go_simp)
  have r4_3 : w3.cell? ⟨w.heap.size + 1 + 1, 4, none⟩ = some (.bool false) := cell_later hB3 (by go_simp)
  have k0_3 : w3.cell? ⟨kb, 0, none⟩ = some (.int .i64 k) := cell_later hB3 (by go_simp)
  have f0_3 : w3.frozen? ⟨w.heap.size + 1 + 1, 0, none⟩ = false := keepFr hB3 (by first | omega | (simp; omega) | simp) (by go_simp)
  have f1_3 : w3.frozen? ⟨w.heap.size + 1 + 1, 1, none⟩ = false := keepFr hB3 (by first | omega | (simp; omega) | simp) (by go_simp)
  have f2_3 : w3.frozen? ⟨w.heap.size + 1 + 1, 2, none⟩ = false := keepFr hB3 (by first | omega | (simp; omega) | simp) (by go_simp)
  have f3_3 : w3.frozen? ⟨w.heap.size + 1 + 1, 3, none⟩ = false := keepFr hB3 (by first | omega | (simp; omega) | simp) (by go_simp)
  have f4_3 : w3.frozen? ⟨w.heap.size + 1 + 1, 4, none⟩ = false := keepFr hB3 (by first | omega | (simp; omega) | simp) (by go_simp)
  clear hB3 bl2 z0_2 z1_2 z2_2 zk_2 a0_2 a1_2 c0_2 c1_2 k0_2 r0_2 r1_2 r2_2 r3_2 r4_2 f0_2 f1_2 f2_2 f3_2 f4_2
  go_wp2_with fail
  refine (SR _).out.mono ?_
  rintro e4 w4 ⟨rfl, hB4⟩
  have z2_4 : w.heap.size + 1 + 1 < w4.heap.size := by have := hB4.size; omega
  have bl4 : Below w.heap.size w w4 := bl3.trans (hB4.mono (by omega))
  have z0_4 : w.heap.size < w4.heap.size := by omega
  have z1_4 : w.heap.size + 1 < w4.heap.size := by omega
  have zk_4 : kb < w4.heap.size := by omega
  have a0_4 : w4.cell? ⟨w.heap.size, 0, none⟩ = some (.int .i64 a) := cell_later hB4 (by go_simp)
  have a1_4 : w4.cell? ⟨w.heap.size, 1, none⟩ = some (.int .i64 a) := cell_later hB4 (by go_simp)
  have c0_4 : w4.cell? ⟨w.heap.size + 1, 0, none⟩ = some (.int .i64 c) := cell_later hB4 (by go_simp)
  have c1_4 : w4.cell? ⟨w.heap.size + 1, 1, none⟩ = some (.int .i64 d) := cell_later hB4 (by go_simp)
  have r0_4 : w4.cell? ⟨w.heap.size + 1 + 1, 0, none⟩ = some (.int .i64 0) := cell_later hB4 (by go_simp)
  have r1_4 : w4.cell? ⟨w.heap.size + 1 + 1, 1, none⟩ = some (.int .i64 0) := cell_later hB4 (by go_simp)
  have r2_4 : w4.cell? ⟨w.heap.size + 1 + 1, 2, none⟩ = some (.bool false) := cell_later hB4 (by go_simp)
  have r3_4 : w4.cell? ⟨w.heap.size + 1 + 1, 3, none⟩ = some (.bool false) := cell_later hB4 (by go_simp)
  have r4_4 : w4.cell? ⟨w.heap.size + 1 + 1, 4, none⟩ = some (.bool false) := cell_later hB4 (by go_simp)
  have k0_4 : w4.cell? ⟨kb, 0, none⟩ = some (.int .i64 k) := cell_later hB4 (by go_simp)
  have f0_4 : w4.frozen? ⟨w.heap.size + 1 + 1, 0, none⟩ = false := keepFr hB4 (by first | omega | (simp; omega) | simp) (by go_simp)
  have f1_4 : w4.frozen? ⟨w.heap.size + 1 + 1, 1, none⟩ = false := keepFr hB4 (by first | omega | (simp; omega) | simp) (by go_simp)
  have f2_4 : w4.frozen? ⟨w.heap.size + 1 + 1, 2, none⟩ = false := keepFr hB4 (by first | omega | (simp; omega) | simp) (by go_simp)
  have f3_4 : w4.frozen? ⟨w.heap.size + 1 + 1, 3, none⟩ = false := keepFr hB4 (by first | omega | (simp; omega) | simp) (by go_simp)
  have f4_4 : w4.frozen? ⟨w.heap.size + 1 + 1, 4, none⟩ = false := keepFr hB4 (by first | omega | (simp; omega) | simp) (by go_simp)
  clear hB4 bl3 z0_3 z1_3 z2_3 zk_3 a0_3 a1_3 c0_3 c1_3 k0_3 r0_3 r1_3 r2_3 r3_3 r4_3 f0_3 f1_3 f2_3 f3_3 f4_3
  go_wp2
  refine bodyPost_ret (v := EffV (x) (y) true false false) (by simp [results, Try.results86, go_sem, r0_4, r1_4, r2_4, r3_4, r4_4, EffV]) rfl ⟨rfl, ?_⟩
  exact (((bl4.setCell (by simp; try omega) _).setCell (by simp; try omega) _).setCell (by simp; try omega) _)

set_option maxRecDepth 100000 in
set_option maxHeartbeats 4000000 in
theorem pbitw_3s (a c k : Int) (kb : Nat) (w : World) (hkb : kb < w.heap.size) (hk : w.cell? ⟨kb, 0, none⟩ = some (.int .i64 k)) (S1 : Sing a a true) (S2 : Sing c c true) (ON : Only (bits .or .i64 a c)) :
    Calls Try.prog 88 #[.agg #[.int .i64 a, .int .i64 a], .agg #[.int .i64 c, .int .i64 c], .pointer (some ⟨kb, 0, none⟩)] w fun e w' => e = .returned (EffV (bits .or .i64 a c) (bits .or .i64 a c) true false false) ∧ Below w.heap.size w w' := by
  have hk3 : ∀ o1 o2 o3, (((w.alloc o1).alloc o2).alloc o3).cell? ⟨kb, 0, none⟩ = some (.int .i64 k) := by
    intro o1 o2 o3
    rw [((((Below.refl w.heap.size w).alloc (Nat.le_refl _) o1).alloc (by simp) o2).alloc (by simp; omega) o3).cell (p := ⟨kb, 0, none⟩) hkb]
    exact hk
  clear hk
  go_enter Try.func88, Try.ntmps88
  go_wp2_with fail
  refine (S1 _).out.mono ?_
  rintro e1 w1 ⟨rfl, hB1⟩
  have z2_1 : w.heap.size + 1 + 1 < w1.heap.size := by have := hB1.size; simp at this; omega
  have bl1 : Below w.heap.size w w1 := ((((Below.refl _ _).alloc (Nat.le_refl _) _).alloc (by simp) _).alloc (by simp; omega) _).trans (hB1.mono (by simp; omega))
  have z0_1 : w.heap.size < w1.heap.size := by omega
  have z1_1 : w.heap.size + 1 < w1.heap.size := by omega
  have zk_1 : kb < w1.heap.size := by omega
  have a0_1 : w1.cell? ⟨w.heap.size, 0, none⟩ = some (.int .i64 a) := cell_later hB1 (by go_simp)
  have a1_1 : w1.cell? ⟨w.heap.size, 1, none⟩ = some (.int .i64 a) := cell_later hB1 (by go_simp)
  have c0_1 : w1.cell? ⟨w.heap.size + 1, 0, none⟩ = some (.int .i64 c) := cell_later hB1 (by go_simp)
  have c1_1 : w1.cell? ⟨w.heap.size + 1, 1, none⟩ = some (.int .i64 c) := cell_later hB1 (by go_simp)
  have r0_1 : w1.cell? ⟨w.heap.size + 1 + 1, 0, none⟩ = some (.int .i64 0) := cell_later hB1 (by go_simp)
  have r1_1 : w1.cell? ⟨w.heap.size + 1 + 1, 1, none⟩ = some (.int .i64 0) := cell_later hB1 (by go_simp)
  have r2_1 : w1.cell? ⟨w.heap.size + 1 + 1, 2, none⟩ = some (.bool false) := cell_later hB1 (by go_simp)
  have r3_1 : w1.cell? ⟨w.heap.size + 1 + 1, 3, none⟩ = some (.bool false) := cell_later hB1 (by go_simp)
  have r4_1 : w1.cell? ⟨w.heap.size + 1 + 1, 4, none⟩ = some (.bool false) := cell_later hB1 (by go_simp)
  have k0_1 : w1.cell? ⟨kb, 0, none⟩ = some (.int .i64 k) := cell_later hB1 (by go_simp)
  have f0_1 : w1.frozen? ⟨w.heap.size + 1 + 1, 0, none⟩ = false := keepFr hB1 (by first | omega | (simp; omega) | simp) (by go_simp)
  have f1_1 : w1.frozen? ⟨w.heap.size + 1 + 1, 1, none⟩ = false := keepFr hB1 (by first | omega | (simp; omega) | simp) (by go_simp)
  have f2_1 : w1.frozen? ⟨w.heap.size + 1 + 1, 2, none⟩ = false := keepFr hB1 (by first | omega | (simp; omega) | simp) (by go_simp)
  have f3_1 : w1.frozen? ⟨w.heap.size + 1 + 1, 3, none⟩ = false := keepFr hB1 (by first | omega | (simp; omega) | simp) (by go_simp)
  have f4_1 : w1.frozen? ⟨w.heap.size + 1 + 1, 4, none⟩ = false := keepFr hB1 (by first | omega | (simp; omega) | simp) (by go_simp)
  clear hB1
  go_wp2_with fail
  refine (S2 _).out.mono ?_
  rintro e2 w2 ⟨rfl, hB2⟩
  have z2_2 : w.heap.size + 1 + 1 < w2.heap.size := by have := hB2.size; omega
  have bl2 : Below w.heap.size w w2 := bl1.trans (hB2.mono (by omega))
  have z0_2 : w.heap.size < w2.heap.size := by omega
  have z1_2 : w.heap.size + 1 < w2.heap.size := by omega
  have zk_2 : kb < w2.heap.size := by omega
  have a0_2 : w2.cell? ⟨w.heap.size, 0, none⟩ = some (.int .i64 a) := cell_later hB2 (by go_simp)
  have a1_2 : w2.cell? ⟨w.heap.size, 1, none⟩ = some (.int .i64 a) := cell_later hB2 (by go_simp)
  have c0_2 : w2.cell? ⟨w.heap.size + 1, 0, none⟩ = some (.int .i64 c) := cell_later hB2 (by go_simp)
  have c1_2 : w2.cell? ⟨w.heap.size + 1, 1, none⟩ = some (.int .i64 c) := cell_later hB2 (by go_simp)
  have r0_2 : w2.cell? ⟨w.heap.size + 1 + 1, 0, none⟩ = some (.int .i64 0) := cell_later hB2 (by go_simp)
  have r1_2 : w2.cell? ⟨w.heap.size + 1 + 1, 1, none⟩ = some (.int .i64 0) := cell_later hB2 (by go_simp)
  have r2_2 : w2.cell? ⟨w.heap.size + 1 + 1, 2, none⟩ = some (.bool false) := cell_later hB2 (by go_simp)
  have r3_2 : w2.cell? ⟨w.heap.size + 1 + 1, 3, none⟩ = some (.bool false) := cell_later hB2 (by go_simp)
  have r4_2 : w2.cell? ⟨w.heap.size + 1 + 1, 4, none⟩ = some (.bool false) := cell_later hB2 (by go_simp)
  have k0_2 : w2.cell? ⟨kb, 0, none⟩ = some (.int .i64 k) := cell_later hB2 (by go_simp)
  have f0_2 : w2.frozen? ⟨w.heap.size + 1 + 1, 0, none⟩ = false := keepFr hB2 (by first | omega | (simp; omega) | simp) (by go_simp)
  have f1_2 : w2.frozen? ⟨w.heap.size + 1 + 1, 1, none⟩ = false := keepFr hB2 (by first | omega | (simp; omega) | simp) (by go_simp)
  have f2_2 : w2.frozen? ⟨w.heap.size + 1 + 1, 2, none⟩ = false := keepFr hB2 (by first | omega | (simp; omega) | simp) (by go_simp)
  have f3_2 : w2.frozen? ⟨w.heap.size + 1 + 1, 3, none⟩ = false := keepFr hB2 (by first | omega | (simp; omega) | simp) (by go_simp)
  have f4_2 : w2.frozen? ⟨w.heap.size + 1 + 1, 4, none⟩ = false := keepFr hB2 (by first | omega | (simp; omega) | simp) (by go_simp)
  clear hB2 bl1 z0_1 z1_1 z2_1 zk_1 a0_1 a1_1 c0_1 c1_1 k0_1 r0_1 r1_1 r2_1 r3_1 r4_1 f0_1 f1_1 f2_1 f3_1 f4_1
  go_wp2_with fail
  refine (ON _).out.mono ?_
  rintro e3 w3 ⟨rfl, hB3⟩
  have z2_3 : w.heap.size + 1 + 1 < w3.heap.size := by have := hB3.size; omega
  have bl3 : Below w.heap.size w w3 := bl2.trans (hB3.mono (by omega))
  have z0_3 : w.heap.size < w3.heap.size := by omega
  have z1_3 : w.heap.size + 1 < w3.heap.size := by omega
  have zk_3 : kb < w3.heap.size := by omega
  have a0_3 : w3.cell? ⟨w.heap.size, 0, none⟩ = some (.int .i64 a) := cell_later hB3 (by go_simp)
  have a1_3 : w3.cell? ⟨w.heap.size, 1, none⟩ = some (.int .i64 a) := cell_later hB3 (by go_simp)
  have c0_3 : w3.cell? ⟨w.heap.size + 1, 0, none⟩ = some (.int .i64 c) := cell_later hB3 (by go_simp)
  have c1_3 : w3.cell? ⟨w.heap.size + 1, 1, none⟩ = some (.int .i64 c) := cell_later hB3 (by go_simp)
  have r0_3 : w3.cell? ⟨w.heap.size + 1 + 1, 0, none⟩ = some (.int .i64 0) := cell_later hB3 (by go_simp)
  have r1_3 : w3.cell? ⟨w.heap.size + 1 + 1, 1, none⟩ = some (.int .i64 0) := cell_later hB3 (by go_simp)
  have r2_3 : w3.cell? ⟨w.heap.size + 1 + 1, 2, none⟩ = some (.bool false) := cell_later hB3 (by go_simp)
  have r3_3 : w3.cell? ⟨w.heap.size + 1 + 1, 3, none⟩ = some (.bool false) := cell_later hB3 (by go_simp)
  have r4_3 : w3.cell? ⟨w.heap.size + 1 + 1, 4, none⟩ = some (.bool false) := cell_later hB3 (by go_simp)
  have k0_3 : w3.cell? ⟨kb, 0, none⟩ = some (.int .i64 k) := cell_later hB3 (by go_simp)
  have f0_3 : w3.frozen? ⟨w.heap.size + 1 + 1, 0, none⟩ = false := keepFr hB3 (by first | omega | (simp; omega) | simp) (by go_simp)
  have f1_3 : w3.frozen? ⟨w.heap.size + 1 + 1, 1, none⟩ = false := keepFr hB3 (by first | omega | (simp; omega) | simp) (by go_simp)
  have f2_3 : w3.frozen? ⟨w.heap.size + 1 + 1, 2, none⟩ = false := keepFr hB3 (by first | omega | (simp; omega) | simp) (by go_simp)
  have f3_3 : w3.frozen? ⟨w.heap.size + 1 + 1, 3, none⟩ = false := keepFr hB3 (by first | omega | (simp; omega) | simp) (by go_simp)
  have f4_3 : w3.frozen? ⟨w.heap.size + 1 + 1, 4, none⟩ = false := keepFr hB3 (by first | omega | (simp; omega) | simp) (by go_simp)
  clear hB3 bl2 z0_2 z1_2 z2_2 zk_2 a0_2 a1_2 c0_2 c1_2 k0_2 r0_2 r1_2 r2_2 r3_2 r4_2 f0_2 f1_2 f2_2 f3_2 f4_2
  go_wp2
  refine bodyPost_ret (v := EffV (bits .or .i64 a c) (bits .or .i64 a c) true false false) (by simp [results, Try.results88, go_sem, r0_3, r1_3, r2_3, r3_3, r4_3, EffV]) rfl ⟨rfl, ?_⟩
  exact (((bl3.setCell (by simp; try omega) _).setCell (by simp; try omega) _).setCell (by simp; try omega) _)

set_option maxRecDepth 100000 in
set_option maxHeartbeats 4000000 in
theorem pbitw_3nlt (a b c d k x y : Int) (kb : Nat) (w : World) (hkb : kb < w.heap.size) (hk : w.cell? ⟨kb, 0, none⟩ = some (.int .i64 k)) (S1 : Sing a b false) (h3 : a < c) (G : Gives 87 #[.int .i64 k, .int .i64 c, .agg #[.int .i64 a, .int .i64 b], .agg #[.int .i64 c, .int .i64 d]] x y) (SR : Sure x y) :
    Calls Try.prog 88 #[.agg #[.int .i64 a, .int .i64 b], .agg #[.int .i64 c, .int .i64 d], .pointer (some ⟨kb, 0, none⟩)] w fun e w' => e = .returned (EffV (x) (y) true false false) ∧ Below w.heap.size w w' := by
  have hk3 : ∀ o1 o2 o3, (((w.alloc o1).alloc o2).alloc o3).cell? ⟨kb, 0, none⟩ = some (.int .i64 k) := by
    intro o1 o2 o3
    rw [((((Below.refl w.heap.size w).alloc (Nat.le_refl _) o1).alloc (by simp) o2).alloc (by simp; omega) o3).cell (p := ⟨kb, 0, none⟩) hkb]
    exact hk
  clear hk
  go_enter Try.func88, Try.ntmps88
  go_wp2_with fail
  refine (S1 _).out.mono ?_
  rintro e1 w1 ⟨rfl, hB1⟩
  have z2_1 : w.heap.size + 1 + 1 < w1.heap.size := by have := hB1.size; simp at this; omega
  have bl1 : Below w.heap.size w w1 := ((((Below.refl _ _).alloc (Nat.le_refl _) _).alloc (by simp) _).alloc (by simp; omega) _).trans (hB1.mono (by simp; omega))
  have z0_1 : w.heap.size < w1.heap.size := by omega
  have z1_1 : w.heap.size + 1 < w1.heap.size := by omega
  have zk_1 : kb < w1.heap.size := by omega
  have a0_1 : w1.cell? ⟨w.heap.size, 0, none⟩ = some (.int .i64 a) := cell_later hB1 (by go_simp)
  have a1_1 : w1.cell? ⟨w.heap.size, 1, none⟩ = some (.int .i64 b) := cell_later hB1 (by go_simp)
  have c0_1 : w1.cell? ⟨w.heap.size + 1, 0, none⟩ = some (.int .i64 c) := cell_later hB1 (by go_simp)
  have c1_1 : w1.cell? ⟨w.heap.size + 1, 1, none⟩ = some (.int .i64 d) := cell_later hB1 (by go_simp)
  have r0_1 : w1.cell? ⟨w.heap.size + 1 + 1, 0, none⟩ = some (.int .i64 0) := cell_later hB1 (by go_simp)
  have r1_1 : w1.cell? ⟨w.heap.size + 1 + 1, 1, none⟩ = some (.int .i64 0) := cell_later hB1 (by go_simp)
  have r2_1 : w1.cell? ⟨w.heap.size + 1 + 1, 2, none⟩ = some (.bool false) := cell_later hB1 (by go_simp)
  have r3_1 : w1.cell? ⟨w.heap.size + 1 + 1, 3, none⟩ = some (.bool false) := cell_later hB1 (by go_simp)
  have r4_1 : w1.cell? ⟨w.heap.size + 1 + 1, 4, none⟩ = some (.bool false) := cell_later hB1 (by go_simp)
  have k0_1 : w1.cell? ⟨kb, 0, none⟩ = some (.int .i64 k) := cell_later hB1 (by go_simp)
  have f0_1 : w1.frozen? ⟨w.heap.size + 1 + 1, 0, none⟩ = false := keepFr hB1 (by first | omega | (simp; omega) | simp) (by go_simp)
  have f1_1 : w1.frozen? ⟨w.heap.size + 1 + 1, 1, none⟩ = false := keepFr hB1 (by first | omega | (simp; omega) | simp) (by go_simp)
  have f2_1 : w1.frozen? ⟨w.heap.size + 1 + 1, 2, none⟩ = false := keepFr hB1 (by first | omega | (simp; omega) | simp) (by go_simp)
  have f3_1 : w1.frozen? ⟨w.heap.size + 1 + 1, 3, none⟩ = false := keepFr hB1 (by first | omega | (simp; omega) | simp) (by go_simp)
  have f4_1 : w1.frozen? ⟨w.heap.size + 1 + 1, 4, none⟩ = false := keepFr hB1 (by first | omega | (simp; omega) | simp) (by go_simp)
  clear hB1
  go_wp2_with fail
  refine (G _).out.mono ?_
  rintro e2 w2 ⟨rfl, hB2⟩
  have z2_2 : w.heap.size + 1 + 1 < w2.heap.size := by have := hB2.size; omega
  have bl2 : Below w.heap.size w w2 := bl1.trans (hB2.mono (by omega))
  have z0_2 : w.heap.size < w2.heap.size := by omega
  have z1_2 : w.heap.size + 1 < w2.heap.size := by omega
  have zk_2 : kb < w2.heap.size := by omega
  have a0_2 : w2.cell? ⟨w.heap.size, 0, none⟩ = some (.int .i64 a) := cell_later hB2 (by go_simp)
  have a1_2 : w2.cell? ⟨w.heap.size, 1, none⟩ = some (.int .i64 b) := cell_later hB2 (by go_simp)
  have c0_2 : w2.cell? ⟨w.heap.size + 1, 0, none⟩ = some (.int .i64 c) := cell_later hB2 (by go_simp)
  have c1_2 : w2.cell? ⟨w.heap.size + 1, 1, none⟩ = some (.int .i64 d) := cell_later hB2 (by go_simp)
  have r0_2 : w2.cell? ⟨w.heap.size + 1 + 1, 0, none⟩ = some (.int .i64 0) := cell_later hB2 (by go_simp)
  have r1_2 : w2.cell? ⟨w.heap.size + 1 + 1, 1, none⟩ = some (.int .i64 0) := cell_later hB2 (by go_simp)
  have r2_2 : w2.cell? ⟨w.heap.size + 1 + 1, 2, none⟩ = some (.bool false) := cell_later hB2 (by go_simp)
  have r3_2 : w2.cell? ⟨w.heap.size + 1 + 1, 3, none⟩ = some (.bool false) := cell_later hB2 (by go_simp)
  have r4_2 : w2.cell? ⟨w.heap.size + 1 + 1, 4, none⟩ = some (.bool false) := cell_later hB2 (by go_simp)
  have k0_2 : w2.cell? ⟨kb, 0, none⟩ = some (.int .i64 k) := cell_later hB2 (by go_simp)
  have f0_2 : w2.frozen? ⟨w.heap.size + 1 + 1, 0, none⟩ = false := keepFr hB2 (by first | omega | (simp; omega) | simp) (by go_simp)
  have f1_2 : w2.frozen? ⟨w.heap.size + 1 + 1, 1, none⟩ = false := keepFr hB2 (by first | omega | (simp; omega) | simp) (by go_simp)
  have f2_2 : w2.frozen? ⟨w.heap.size + 1 + 1, 2, none⟩ = false := keepFr hB2 (by first | omega | (simp; omega) | simp) (by go_simp)
  have f3_2 : w2.frozen? ⟨w.heap.size + 1 + 1, 3, none⟩ = false := keepFr hB2 (by first | omega | (simp; omega) | simp) (by go_simp)
  have f4_2 : w2.frozen? ⟨w.heap.size + 1 + 1, 4, none⟩ = false := keepFr hB2 (by first | omega | (simp; omega) | simp) (by go_simp)
  clear hB2 bl1 z0_1 z1_1 z2_1 zk_1 a0_1 a1_1 c0_1 c1_1 k0_1 r0_1 r1_1 r2_1 r3_1 r4_1 f0_1 f1_1 f2_1 f3_1 f4_1
  go_wp2_with fail
  refine (SR _).out.mono ?_
  rintro e3 w3 ⟨rfl, hB3⟩
  have z2_3 : w.heap.size + 1 + 1 < w3.heap.size := by have := hB3.size; omega
  have bl3 : Below w.heap.size w w3 := bl2.trans (hB3.mono (by omega))
  have z0_3 : w.heap.size < w3.heap.size := by omega
  have z1_3 : w.heap.size + 1 < w3.heap.size := by omega
  have zk_3 : kb < w3.heap.size := by omega
  have a0_3 : w3.cell? ⟨w.heap.size, 0, none⟩ = some (.int .i64 a) := cell_later hB3 (by go_simp)
  have a1_3 : w3.cell? ⟨w.heap.size, 1, none⟩ = some (.int .i64 b) := cell_later hB3 (by go_simp)
  have c0_3 : w3.cell? ⟨w.heap.size + 1, 0, none⟩ = some (.int .i64 c) := cell_later hB3 (by go_simp)
  have c1_3 : w3.cell? ⟨w.heap.size + 1, 1, none⟩ = some (.int .i64 d) := cell_later hB3 (by go_simp)
  have r0_3 : w3.cell? ⟨w.heap.size + 1 + 1, 0, none⟩ = some (.int .i64 0) := cell_later hB3 (by go_simp)
  have r1_3 : w3.cell? ⟨w.heap.size + 1 + 1, 1, none⟩ = some (.int .i64 0) := cell_later hB3 (by go_simp)
  have r2_3 : w3.cell? ⟨w.heap.size + 1 + 1, 2, none⟩ = some (.bool false) := cell_later hB3 (by go_simp)
  have r3_3 : w3.cell? ⟨w.heap.size + 1 + 1, 3, none⟩ = some (.bool false) := cell_later hB3 (by go_simp)
  have r4_3 : w3.cell? ⟨w.heap.size + 1 + 1, 4, none⟩ = some (.bool false) := cell_later hB3 (by go_simp)
  have k0_3 : w3.cell? ⟨kb, 0, none⟩ = some (.int .i64 k) := cell_later hB3 (by go_simp)
  have f0_3 : w3.frozen? ⟨w.heap.size + 1 + 1, 0, none⟩ = false := keepFr hB3 (by first | omega | (simp; omega) | simp) (by go_simp)
  have f1_3 : w3.frozen? ⟨w.heap.size + 1 + 1, 1, none⟩ = false := keepFr hB3 (by first | omega | (simp; omega) | simp) (by go_simp)
  have f2_3 : w3.frozen? ⟨w.heap.size + 1 + 1, 2, none⟩ = false := keepFr hB3 (by first | omega | (simp; omega) | simp) (by go_simp)
  have f3_3 : w3.frozen? ⟨w.heap.size + 1 + 1, 3, none⟩ = false := keepFr hB3 (by first | omega | (simp; omega) | simp) (by go_simp)
  have f4_3 : w3.frozen? ⟨w.heap.size + 1 + 1, 4, none⟩ = false := keepFr hB3 (by first | omega | (simp; omega) | simp) (by go_simp)
  clear hB3 bl2 z0_2 z1_2 z2_2 zk_2 a0_2 a1_2 c0_2 c1_2 k0_2 r0_2 r1_2 r2_2 r3_2 r4_2 f0_2 f1_2 f2_2 f3_2 f4_2
  go_wp2
  refine bodyPost_ret (v := EffV (x) (y) true false false) (by simp [results, Try.results88, go_sem, r0_3, r1_3, r2_3, r3_3, r4_3, EffV]) rfl ⟨rfl, ?_⟩
  exact (((bl3.setCell (by simp; try omega) _).setCell (by simp; try omega) _).setCell (by simp; try omega) _)

set_option maxRecDepth 100000 in
set_option maxHeartbeats 4000000 in
theorem pbitw_3nge (a b c d k x y : Int) (kb : Nat) (w : World) (hkb : kb < w.heap.size) (hk : w.cell? ⟨kb, 0, none⟩ = some (.int .i64 k)) (S1 : Sing a b false) (h3 : c ≤ a) (G : Gives 87 #[.int .i64 k, .int .i64 a, .agg #[.int .i64 a, .int .i64 b], .agg #[.int .i64 c, .int .i64 d]] x y) (SR : Sure x y) :
    Calls Try.prog 88 #[.agg #[.int .i64 a, .int .i64 b], .agg #[.int .i64 c, .int .i64 d], .pointer (some ⟨kb, 0, none⟩)] w fun e w' => e = .returned (EffV (x) (y) true false false) ∧ Below w.heap.size w w' := by
  have hk3 : ∀ o1 o2 o3, (((w.alloc o1).alloc o2).alloc o3).cell? ⟨kb, 0, none⟩ = some (.int .i64 k) := by
    intro o1 o2 o3
    rw [((((Below.refl w.heap.size w).alloc (Nat.le_refl _) o1).alloc (by simp) o2).alloc (by simp; omega) o3).cell (p := ⟨kb, 0, none⟩) hkb]
    exact hk
  clear hk
  go_enter Try.func88, Try.ntmps88
  go_wp2_with fail
  refine (S1 _).out.mono ?_
  rintro e1 w1 ⟨rfl, hB1⟩
  have z2_1 : w.heap.size + 1 + 1 < w1.heap.size := by have := hB1.size; simp at this; omega
  have bl1 : Below w.heap.size w w1 := ((((Below.refl _ _).alloc (Nat.le_refl _) _).alloc (by simp) _).alloc (by simp; omega) _).trans (hB1.mono (by simp; omega))
  have z0_1 : w.heap.size < w1.heap.size := by omega
  have z1_1 : w.heap.size + 1 < w1.heap.size := by omega
  have zk_1 : kb < w1.heap.size := by omega
  have a0_1 : w1.cell? ⟨w.heap.size, 0, none⟩ = some (.int .i64 a) := cell_later hB1 (by go_simp)
  have a1_1 : w1.cell? ⟨w.heap.size, 1, none⟩ = some (.int .i64 b) := cell_later hB1 (by go_simp)
  have c0_1 : w1.cell? ⟨w.heap.size + 1, 0, none⟩ = some (.int .i64 c) := cell_later hB1 (by go_simp)
  have c1_1 : w1.cell? ⟨w.heap.size + 1, 1, none⟩ = some (.int .i64 d) := cell_later hB1 (by go_simp)
  have r0_1 : w1.cell? ⟨w.heap.size + 1 + 1, 0, none⟩ = some (.int .i64 0) := cell_later hB1 (by go_simp)
  have r1_1 : w1.cell? ⟨w.heap.size + 1 + 1, 1, none⟩ = some (.int .i64 0) := cell_later hB1 (by go_simp)
  have r2_1 : w1.cell? ⟨w.heap.size + 1 + 1, 2, none⟩ = some (.bool false) := cell_later hB1 (by go_simp)
  have r3_1 : w1.cell? ⟨w.heap.size + 1 + 1, 3, none⟩ = some (.bool false) := cell_later hB1 (by go_simp)
  have r4_1 : w1.cell? ⟨w.heap.size + 1 + 1, 4, none⟩ = some (.bool false) := cell_later hB1 (by go_simp)
  have k0_1 : w1.cell? ⟨kb, 0, none⟩ = some (.int .i64 k) := cell_later hB1 (by go_simp)
  have f0_1 : w1.frozen? ⟨w.heap.size + 1 + 1, 0, none⟩ = false := keepFr hB1 (by first | omega | (simp; omega) | simp) (by go_simp)
  have f1_1 : w1.frozen? ⟨w.heap.size + 1 + 1, 1, none⟩ = false := keepFr hB1 (by first | omega | (simp; omega) | simp) (by go_simp)
  have f2_1 : w1.frozen? ⟨w.heap.size + 1 + 1, 2, none⟩ = false := keepFr hB1 (by first | omega | (simp; omega) | simp) (by go_simp)
  have f3_1 : w1.frozen? ⟨w.heap.size + 1 + 1, 3, none⟩ = false := keepFr hB1 (by first | omega | (simp; omega) | simp) (by go_simp)
  have f4_1 : w1.frozen? ⟨w.heap.size + 1 + 1, 4, none⟩ = false := keepFr hB1 (by first | omega | (simp; omega) | simp) (by go_simp)
  clear hB1
  go_wp2_with fail
  refine (G _).out.mono ?_
  rintro e2 w2 ⟨rfl, hB2⟩
  have z2_2 : w.heap.size + 1 + 1 < w2.heap.size := by have := hB2.size; omega
  have bl2 : Below w.heap.size w w2 := bl1.trans (hB2.mono (by omega))
  have z0_2 : w.heap.size < w2.heap.size := by omega
  have z1_2 : w.heap.size + 1 < w2.heap.size := by omega
  have zk_2 : kb < w2.heap.size := by omega
  have a0_2 : w2.cell? ⟨w.heap.size, 0, none⟩ = some (.int .i64 a) := cell_later hB2 (by go_simp)
  have a1_2 : w2.cell? ⟨w.heap.size, 1, none⟩ = some (.int .i64 b) := cell_later hB2 (by go_simp)
  have c0_2 : w2.cell? ⟨w.heap.size + 1, 0, none⟩ = some (.int .i64 c) := cell_later hB2 (by go_simp)
  have c1_2 : w2.cell? ⟨w.heap.size + 1, 1, none⟩ = some (.int .i64 d) := cell_later hB2 (by go_simp)
  have r0_2 : w2.cell? ⟨w.heap.size + 1 + 1, 0, none⟩ = some (.int .i64 0) := cell_later hB2 (by go_simp)
  have r1_2 : w2.cell? ⟨w.heap.size + 1 + 1, 1, none⟩ = some (.int .i64 0) := cell_later hB2 (by go_simp)
  have r2_2 : w2.cell? ⟨w.heap.size + 1 + 1, 2, none⟩ = some (.bool false) := cell_later hB2 (by go_simp)
  have r3_2 : w2.cell? ⟨w.heap.size + 1 + 1, 3, none⟩ = some (.bool false) := cell_later hB2 (by go_simp)
  have r4_2 : w2.cell? ⟨w.heap.size + 1 + 1, 4, none⟩ = some (.bool false) := cell_later hB2 (by go_simp)
  have k0_2 : w2.cell? ⟨kb, 0, none⟩ = some (.int .i64 k) := cell_later hB2 (by go_simp)
  have f0_2 : w2.frozen? ⟨w.heap.size + 1 + 1, 0, none⟩ = false := keepFr hB2 (by first | omega | (simp; omega) | simp) (by go_simp)
  have f1_2 : w2.frozen? ⟨w.heap.size + 1 + 1, 1, none⟩ = false := keepFr hB2 (by first | omega | (simp; omega) | simp) (by go_simp)
  have f2_2 : w2.frozen? ⟨w.heap.size + 1 + 1, 2, none⟩ = false := keepFr hB2 (by first | omega | (simp; omega) | simp) (by go_simp)
  have f3_2 : w2.frozen? ⟨w.heap.size + 1 + 1, 3, none⟩ = false := keepFr hB2 (by first | omega | (simp; omega) | simp) (by go_simp)
  have f4_2 : w2.frozen? ⟨w.heap.size + 1 + 1, 4, none⟩ = false := keepFr hB2 (by first | omega | (simp; omega) | simp) (by go_simp)
  clear hB2 bl1 z0_1 z1_1 z2_1 zk_1 a0_1 a1_1 c0_1 c1_1 k0_1 r0_1 r1_1 r2_1 r3_1 r4_1 f0_1 f1_1 f2_1 f3_1 f4_1
  go_wp2_with fail
  refine (SR _).out.mono ?_
  rintro e3 w3 ⟨rfl, hB3⟩
  have z2_3 : w.heap.size + 1 + 1 < w3.heap.size := by have := hB3.size; omega
  have bl3 : Below w.heap.size w w3 := bl2.trans (hB3.mono (by omega))
  have z0_3 : w.heap.size < w3.heap.size := by omega
  have z1_3 : w.heap.size + 1 < w3.heap.size := by omega
  have zk_3 : kb < w3.heap.size := by omega
  have a0_3 : w3.cell? ⟨w.heap.size, 0, none⟩ = some (.int .i64 a) := cell_later hB3 (by go_simp)
  have a1_3 : w3.cell? ⟨w.heap.size, 1, none⟩ = some (.int .i64 b) := cell_later hB3 (by go_simp)
  have c0_3 : w3.cell? ⟨w.heap.size + 1, 0, none⟩ = some (.int .i64 c) := cell_later hB3 (by go_simp)
  have c1_3 : w3.cell? ⟨w.heap.size + 1, 1, none⟩ = some (.int .i64 d) := cell_later hB3 (by go_simp)
  have r0_3 : w3.cell? ⟨w.heap.size + 1 + 1, 0, none⟩ = some (.int .i64 0) := cell_later hB3 (by go_simp)
  have r1_3 : w3.cell? ⟨w.heap.size + 1 + 1, 1, none⟩ = some (.int .i64 0) := cell_later hB3 (by go_simp)
  have r2_3 : w3.cell? ⟨w.heap.size + 1 + 1, 2, none⟩ = some (.bool false) := cell_later hB3 (by go_simp)
  have r3_3 : w3.cell? ⟨w.heap.size + 1 + 1, 3, none⟩ = some (.bool false) := cell_later hB3 (by go_simp)
  have r4_3 : w3.cell? ⟨w.heap.size + 1 + 1, 4, none⟩ = some (.bool false) := cell_later hB3 (by go_simp)
  have k0_3 : w3.cell? ⟨kb, 0, none⟩ = some (.int .i64 k) := cell_later hB3 (by go_simp)
  have f0_3 : w3.frozen? ⟨w.heap.size + 1 + 1, 0, none⟩ = false := keepFr hB3 (by first | omega | (simp; omega) | simp) (by go_simp)
  have f1_3 : w3.frozen? ⟨w.heap.size + 1 + 1, 1, none⟩ = false := keepFr hB3 (by first | omega | (simp; omega) | simp) (by go_simp)
  have f2_3 : w3.frozen? ⟨w.heap.size + 1 + 1, 2, none⟩ = false := keepFr hB3 (by first | omega | (simp; omega) | simp) (by go_simp)
  have f3_3 : w3.frozen? ⟨w.heap.size + 1 + 1, 3, none⟩ = false := keepFr hB3 (by first | omega | (simp; omega) | simp) (by go_simp)
  have f4_3 : w3.frozen? ⟨w.heap.size + 1 + 1, 4, none⟩ = false := keepFr hB3 (by first | omega | (simp; omega) | simp) (by go_simp)
  clear hB3 bl2 z0_2 z1_2 z2_2 zk_2 a0_2 a1_2 c0_2 c1_2 k0_2 r0_2 r1_2 r2_2 r3_2 r4_2 f0_2 f1_2 f2_2 f3_2 f4_2
  go_wp2
  refine bodyPost_ret (v := EffV (x) (y) true false false) (by simp [results, Try.results88, go_sem, r0_3, r1_3, r2_3, r3_3, r4_3, EffV]) rfl ⟨rfl, ?_⟩
  exact (((bl3.setCell (by simp; try omega) _).setCell (by simp; try omega) _).setCell (by simp; try omega) _)

set_option maxRecDepth 100000 in
set_option maxHeartbeats 4000000 in
theorem pbitw_3mlt (a c d k x y : Int) (kb : Nat) (w : World) (hkb : kb < w.heap.size) (hk : w.cell? ⟨kb, 0, none⟩ = some (.int .i64 k)) (S1 : Sing a a true) (S2 : Sing c d false) (h3 : a < c) (G : Gives 87 #[.int .i64 k, .int .i64 c, .agg #[.int .i64 a, .int .i64 a], .agg #[.int .i64 c, .int .i64 d]] x y) (SR : Sure x y) :
    Calls Try.prog 88 #[.agg #[.int .i64 a, .int .i64 a], .agg #[.int .i64 c, .int .i64 d], .pointer (some ⟨kb, 0, none⟩)] w fun e w' => e = .returned (EffV (x) (y) true false false) ∧ Below w.heap.size w w' := by
  have hk3 : ∀ o1 o2 o3, (((w.alloc o1).alloc o2).alloc o3).cell? ⟨kb, 0, none⟩ = some (.int .i64 k) := by
    intro o1 o2 o3
    rw [((((Below.refl w.heap.size w).alloc (Nat.le_refl _) o1).alloc (by simp) o2).alloc (by simp; omega) o3).cell (p := ⟨kb, 0, none⟩) hkb]
    exact hk
  clear hk
  go_enter Try.func88, Try.ntmps88
  go_wp2_with fail
  refine (S1 _).out.mono ?_
  rintro e1 w1 ⟨rfl, hB1⟩
  have z2_1 : w.heap.size + 1 + 1 < w1.heap.size := by have := hB1.size; simp at this; omega
  have bl1 : Below w.heap.size w w1 := ((((Below.refl _ _).alloc (Nat.le_refl _) _).alloc (by simp) _).alloc (by simp; omega) _).trans (hB1.mono (by simp; omega))
  have z0_1 : w.heap.size < w1.heap.size := by omega
  have z1_1 : w.heap.size + 1 < w1.heap.size := by omega
  have zk_1 : kb < w1.heap.size := by omega
  have a0_1 : w1.cell? ⟨w.heap.size, 0, none⟩ = some (.int .i64 a) := cell_later hB1 (by go_simp)
  have a1_1 : w1.cell? ⟨w.heap.size, 1, none⟩ = some (.int .i64 a) := cell_later hB1 (by go_simp)
  have c0_1 : w1.cell? ⟨w.heap.size + 1, 0, none⟩ = some (.int .i64 c) := cell_later hB1 (by go_simp)
  have c1_1 : w1.cell? ⟨w.heap.size + 1, 1, none⟩ = some (.int .i64 d) := cell_later hB1 (by go_simp)
  have r0_1 : w1.cell? ⟨w.heap.size + 1 + 1, 0, none⟩ = some (.int .i64 0) := cell_later hB1 (by go_simp)
  have r1_1 : w1.cell? ⟨w.heap.size + 1 + 1, 1, none⟩ = some (.int .i64 0) := cell_later hB1 (by go_simp)
  have r2_1 : w1.cell? ⟨w.heap.size + 1 + 1, 2, none⟩ = some (.bool false) := cell_later hB1 (by go_simp)
  have r3_1 : w1.cell? ⟨w.heap.size + 1 + 1, 3, none⟩ = some (.bool false) := cell_later hB1 (by go_simp)
  have r4_1 : w1.cell? ⟨w.heap.size + 1 + 1, 4, none⟩ = some (.bool false) := cell_later hB1 (by go_simp)
  have k0_1 : w1.cell? ⟨kb, 0, none⟩ = some (.int .i64 k) := cell_later hB1 (by go_simp)
  have f0_1 : w1.frozen? ⟨w.heap.size + 1 + 1, 0, none⟩ = false := keepFr hB1 (by first | omega | (simp; omega) | simp) (by go_simp)
  have f1_1 : w1.frozen? ⟨w.heap.size + 1 + 1, 1, none⟩ = false := keepFr hB1 (by first | omega | (simp; omega) | simp) (by go_simp)
  have f2_1 : w1.frozen? ⟨w.heap.size + 1 + 1, 2, none⟩ = false := keepFr hB1 (by first | omega | (simp; omega) | simp) (by go_simp)
  have f3_1 : w1.frozen? ⟨w.heap.size + 1 + 1, 3, none⟩ = false := keepFr hB1 (by first | omega | (simp; omega) | simp) (by go_simp)
  have f4_1 : w1.frozen? ⟨w.heap.size + 1 + 1, 4, none⟩ = false := keepFr hB1 (by first | omega | (simp; omega) | simp) (by go_simp)
  clear hB1
  go_wp2_with fail
  refine (S2 _).out.mono ?_
  rintro e2 w2 ⟨rfl, hB2⟩
  have z2_2 : w.heap.size + 1 + 1 < w2.heap.size := by have := hB2.size; omega
  have bl2 : Below w.heap.size w w2 := bl1.trans (hB2.mono (by omega))
  have z0_2 : w.heap.size < w2.heap.size := by omega
  have z1_2 : w.heap.size + 1 < w2.heap.size := by omega
  have zk_2 : kb < w2.heap.size := by omega
  have a0_2 : w2.cell? ⟨w.heap.size, 0, none⟩ = some (.int .i64 a) := cell_later hB2 (by go_simp)
  have a1_2 : w2.cell? ⟨w.heap.size, 1, none⟩ = some (.int .i64 a) := cell_later hB2 (by go_simp)
  have c0_2 : w2.cell? ⟨w.heap.size + 1, 0, none⟩ = some (.int .i64 c) := cell_later hB2 (by go_simp)
  have c1_2 : w2.cell? ⟨w.heap.size + 1, 1, none⟩ = some (.int .i64 d) := cell_later hB2 (by go_simp)
  have r0_2 : w2.cell? ⟨w.heap.size + 1 + 1, 0, none⟩ = some (.int .i64 0) := cell_later hB2 (by go_simp)
  have r1_2 : w2.cell? ⟨w.heap.size + 1 + 1, 1, none⟩ = some (.int .i64 0) := cell_later hB2 (by go_simp)
  have r2_2 : w2.cell? ⟨w.heap.size + 1 + 1, 2, none⟩ = some (.bool false) := cell_later hB2 (by go_simp)
  have r3_2 : w2.cell? ⟨w.heap.size + 1 + 1, 3, none⟩ = some (.bool false) := cell_later hB2 (by go_simp)
  have r4_2 : w2.cell? ⟨w.heap.size + 1 + 1, 4, none⟩ = some (.bool false) := cell_later hB2 (by go_simp)
  have k0_2 : w2.cell? ⟨kb, 0, none⟩ = some (.int .i64 k) := cell_later hB2 (by go_simp)
  have f0_2 : w2.frozen? ⟨w.heap.size + 1 + 1, 0, none⟩ = false := keepFr hB2 (by first | omega | (simp; omega) | simp) (by go_simp)
  have f1_2 : w2.frozen? ⟨w.heap.size + 1 + 1, 1, none⟩ = false := keepFr hB2 (by first | omega | (simp; omega) | simp) (by go_simp)
  have f2_2 : w2.frozen? ⟨w.heap.size + 1 + 1, 2, none⟩ = false := keepFr hB2 (by first | omega | (simp; omega) | simp) (by go_simp)
  have f3_2 : w2.frozen? ⟨w.heap.size + 1 + 1, 3, none⟩ = false := keepFr hB2 (by first | omega | (simp; omega) | simp) (by go_simp)
  have f4_2 : w2.frozen? ⟨w.heap.size + 1 + 1, 4, none⟩ = false := keepFr hB2 (by first | omega | (simp; omega) | simp) (by go_simp)
  clear hB2 bl1 z0_1 z1_1 z2_1 zk_1 a0_1 a1_1 c0_1 c1_1 k0_1 r0_1 r1_1 r2_1 r3_1 r4_1 f0_1 f1_1 f2_1 f3_1 f4_1
  go_wp2_with fail
  refine (G _).out.mono ?_
  rintro e3 w3 ⟨rfl, hB3⟩
  have z2_3 : w.heap.size + 1 + 1 < w3.heap.size := by have := hB3.size; omega
  have bl3 : Below w.heap.size w w3 := bl2.trans (hB3.mono (by omega))
  have z0_3 : w.heap.size < w3.heap.size := by omega
  have z1_3 : w.heap.size + 1 < w3.heap.size := by omega
  have zk_3 : kb < w3.heap.size := by omega
  have a0_3 : w3.cell? ⟨w.heap.size, 0, none⟩ = some (.int .i64 a) := cell_later hB3 (by go_simp)
  have a1_3 : w3.cell? ⟨w.heap.size, 1, none⟩ = some (.int .i64 a) := cell_later hB3 (by go_simp)
  have c0_3 : w3.cell? ⟨w.heap.size + 1, 0, none⟩ = some (.int .i64 c) := cell_later hB3 (by go_simp)
  have c1_3 : w3.cell? ⟨w.heap.size + 1, 1, none⟩ = some (.int .i64 d) := cell_later hB3 (by go_simp)
  have r0_3 : w3.cell? ⟨w.heap.size + 1 + 1, 0, none⟩ = some (.int .i64 0) := cell_later hB3 (by go_simp)
  have r1_3 : w3.cell? ⟨w.heap.size + 1 + 1, 1, none⟩ = some (.int .i64 0) := cell_later hB3 (by go_simp)
  have r2_3 : w3.cell? ⟨w.heap.size + 1 + 1, 2, none⟩ = some (.bool false) := cell_later hB3 (by go_simp)
  have r3_3 : w3.cell? ⟨w.heap.size + 1 + 1, 3, none⟩ = some (.bool false) := cell_later hB3 (by go_simp)
  have r4_3 : w3.cell? ⟨w.heap.size + 1 + 1, 4, none⟩ = some (.bool false) := cell_later hB3 (by go_simp)
  have k0_3 : w3.cell? ⟨kb, 0, none⟩ = some (.int .i64 k) := cell_later hB3 (by go_simp)
  have f0_3 : w3.frozen? ⟨w.heap.size + 1 + 1, 0, none⟩ = false := keepFr hB3 (by first | omega | (simp; omega) | simp) (by go_simp)
  have f1_3 : w3.frozen? ⟨w.heap.size + 1 + 1, 1, none⟩ = false := keepFr hB3 (by first | omega | (simp; omega) | simp) (by go_simp)
  have f2_3 : w3.frozen? ⟨w.heap.size + 1 + 1, 2, none⟩ = false := keepFr hB3 (by first | omega | (simp; omega) | simp) (by go_simp)
  have f3_3 : w3.frozen? ⟨w.heap.size + 1 + 1, 3, none⟩ = false := keepFr hB3 (by first | omega | (simp; omega) | simp) (by go_simp)
  have f4_3 : w3.frozen? ⟨w.heap.size + 1 + 1, 4, none⟩ = false := keepFr hB3 (by first | omega | (simp; omega) | simp) (by go_simp)
  clear hB3 bl2 z0_2 z1_2 z2_2 zk_2 a0_2 a1_2 c0_2 c1_2 k0_2 r0_2 r1_2 r2_2 r3_2 r4_2 f0_2 f1_2 f2_2 f3_2 f4_2
  go_wp2_with fail
  refine (SR _).out.mono ?_
  rintro e4 w4 ⟨rfl, hB4⟩
  have z2_4 : w.heap.size + 1 + 1 < w4.heap.size := by have := hB4.size; omega
  have bl4 : Below w.heap.size w w4 := bl3.trans (hB4.mono (by omega))
  have z0_4 : w.heap.size < w4.heap.size := by omega
  have z1_4 : w.heap.size + 1 < w4.heap.size := by omega
  have zk_4 : kb < w4.heap.size := by omega
  have a0_4 : w4.cell? ⟨w.heap.size, 0, none⟩ = some (.int .i64 a) := cell_later hB4 (by go_simp)
  have a1_4 : w4.cell? ⟨w.heap.size, 1, none⟩ = some (.int .i64 a) := cell_later hB4 (by go_simp)
  have c0_4 : w4.cell? ⟨w.heap.size + 1, 0, none⟩ = some (.int .i64 c) := cell_later hB4 (by go_simp)
  have c1_4 : w4.cell? ⟨w.heap.size + 1, 1, none⟩ = some (.int .i64 d) := cell_later hB4 (by go_simp)
  have r0_4 : w4.cell? ⟨w.heap.size + 1 + 1, 0, none⟩ = some (.int .i64 0) := cell_later hB4 (by go_simp)
  have r1_4 : w4.cell? ⟨w.heap.size + 1 + 1, 1, none⟩ = some (.int .i64 0) := cell_later hB4 (by go_simp)
  have r2_4 : w4.cell? ⟨w.heap.size + 1 + 1, 2, none⟩ = some (.bool false) := cell_later hB4 (by go_simp)
  have r3_4 : w4.cell? ⟨w.heap.size + 1 + 1, 3, none⟩ = some (.bool false) := cell_later hB4 (by go_simp)
  have r4_4 : w4.cell? ⟨w.heap.size + 1 + 1, 4, none⟩ = some (.bool false) := cell_later hB4 (by go_simp)
  have k0_4 : w4.cell? ⟨kb, 0, none⟩ = some (.int .i64 k) := cell_later hB4 (by go_simp)
  have f0_4 : w4.frozen? ⟨w.heap.size + 1 + 1, 0, none⟩ = false := keepFr hB4 (by first | omega | (simp; omega) | simp) (by go_simp)
  have f1_4 : w4.frozen? ⟨w.heap.size + 1 + 1, 1, none⟩ = false := keepFr hB4 (by first | omega | (simp; omega) | simp) (by go_simp)
  have f2_4 : w4.frozen? ⟨w.heap.size + 1 + 1, 2, none⟩ = false := keepFr hB4 (by first | omega | (simp; omega) | simp) (by go_simp)
  have f3_4 : w4.frozen? ⟨w.heap.size + 1 + 1, 3, none⟩ = false := keepFr hB4 (by first | omega | (simp; omega) | simp) (by go_simp)
  have f4_4 : w4.frozen? ⟨w.heap.size + 1 + 1, 4, none⟩ = false := keepFr hB4 (by first | omega | (simp; omega) | simp) (by go_simp)
  clear hB4 bl3 z0_3 z1_3 z2_3 zk_3 a0_3 a1_3 c0_3 c1_3 k0_3 r0_3 r1_3 r2_3 r3_3 r4_3 f0_3 f1_3 f2_3 f3_3 f4_3
  go_wp2
  refine bodyPost_ret (v := EffV (x) (y) true false false) (by simp [results, Try.results88, go_sem, r0_4, r1_4, r2_4, r3_4, r4_4, EffV]) rfl ⟨rfl, ?_⟩
  exact (((bl4.setCell (by simp; try omega) _).setCell (by simp; try omega) _).setCell (by simp; try omega) _)

set_option maxRecDepth 100000 in
set_option maxHeartbeats 4000000 in
theorem pbitw_3mge (a c d k x y : Int) (kb : Nat) (w : World) (hkb : kb < w.heap.size) (hk : w.cell? ⟨kb, 0, none⟩ = some (.int .i64 k)) (S1 : Sing a a true) (S2 : Sing c d false) (h3 : c ≤ a) (G : Gives 87 #[.int .i64 k, .int .i64 a, .agg #[.int .i64 a, .int .i64 a], .agg #[.int .i64 c, .int .i64 d]] x y) (SR : Sure x y) :
    Calls Try.prog 88 #[.agg #[.int .i64 a, .int .i64 a], .agg #[.int .i64 c, .int .i64 d], .pointer (some ⟨kb, 0, none⟩)] w fun e w' => e = .returned (EffV (x) (y) true false false) ∧ Below w.heap.size w w' := by
  have hk3 : ∀ o1 o2 o3, (((w.alloc o1).alloc o2).alloc o3).cell? ⟨kb, 0, none⟩ = some (.int .i64 k) := by
    intro o1 o2 o3
    rw [((((Below.refl w.heap.size w).alloc (Nat.le_refl _) o1).alloc (by simp) o2).alloc (by simp; omega) o3).cell (p := ⟨kb, 0, none⟩) hkb]
    exact hk
  clear hk
  go_enter Try.func88, Try.ntmps88
  go_wp2_with fail
  refine (S1 _).out.mono ?_
  rintro e1 w1 ⟨rfl, hB1⟩
  have z2_1 : w.heap.size + 1 + 1 < w1.heap.size := by have := hB1.size; simp at this; omega
  have bl1 : Below w.heap.size w w1 := ((((Below.refl _ _).alloc (Nat.le_refl _) _).alloc (by simp) _).alloc (by simp; omega) _).trans (hB1.mono (by simp; omega))
  have z0_1 : w.heap.size < w1.heap.size := by omega
  have z1_1 : w.heap.size + 1 < w1.heap.size := by omega
  have zk_1 : kb < w1.heap.size := by omega
  have a0_1 : w1.cell? ⟨w.heap.size, 0, none⟩ = some (.int .i64 a) := cell_later hB1 (by go_simp)
  have a1_1 : w1.cell? ⟨w.heap.size, 1, none⟩ = some (.int .i64 a) := cell_later hB1 (by go_simp)
  have c0_1 : w1.cell? ⟨w.heap.size + 1, 0, none⟩ = some (.int .i64 c) := cell_later hB1 (by go_simp)
  have c1_1 : w1.cell? ⟨w.heap.size + 1, 1, none⟩ = some (.int .i64 d) := cell_later hB1 (by go_simp)
  have r0_1 : w1.cell? ⟨w.heap.size + 1 + 1, 0, none⟩ = some (.int .i64 0) := cell_later hB1 (by go_simp)
  have r1_1 : w1.cell? ⟨w.heap.size + 1 + 1, 1, none⟩ = some (.int .i64 0) := cell_later hB1 (by go_simp)
  have r2_1 : w1.cell? ⟨w.heap.size + 1 + 1, 2, none⟩ = some (.bool false) := cell_later hB1 (by go_simp)
  have r3_1 : w1.cell? ⟨w.heap.size + 1 + 1, 3, none⟩ = some (.bool false) := cell_later hB1 (by go_simp)
  have r4_1 : w1.cell? ⟨w.heap.size + 1 + 1, 4, none⟩ = some (.bool false) := cell_later hB1 (by go_simp)
  have k0_1 : w1.cell? ⟨kb, 0, none⟩ = some (.int .i64 k) := cell_later hB1 (by go_simp)
  have f0_1 : w1.frozen? ⟨w.heap.size + 1 + 1, 0, none⟩ = false := keepFr hB1 (by first | omega | (simp; omega) | simp) (by go_simp)
  have f1_1 : w1.frozen? ⟨w.heap.size + 1 + 1, 1, none⟩ = false := keepFr hB1 (by first | omega | (simp; omega) | simp) (by go_simp)
  have f2_1 : w1.frozen? ⟨w.heap.size + 1 + 1, 2, none⟩ = false := keepFr hB1 (by first | omega | (simp; omega) | simp) (by go_simp)
  have f3_1 : w1.frozen? ⟨w.heap.size + 1 + 1, 3, none⟩ = false := keepFr hB1 (by first | omega | (simp; omega) | simp) (by go_simp)
  have f4_1 : w1.frozen? ⟨w.heap.size + 1 + 1, 4, none⟩ = false := keepFr hB1 (by first | omega | (simp; omega) | simp) (by go_simp)
  clear hB1
  go_wp2_with fail
  refine (S2 _).out.mono ?_
  rintro e2 w2 ⟨rfl, hB2⟩
  have z2_2 : w.heap.size + 1 + 1 < w2.heap.size := by have := hB2.size; omega
  have bl2 : Below w.heap.size w w2 := bl1.trans (hB2.mono (by omega))
  have z0_2 : w.heap.size < w2.heap.size := by omega
  have z1_2 : w.heap.size + 1 < w2.heap.size := by omega
  have zk_2 : kb < w2.heap.size := by omega
  have a0_2 : w2.cell? ⟨w.heap.size, 0, none⟩ = some (.int .i64 a) := cell_later hB2 (by go_simp)
  have a1_2 : w2.cell? ⟨w.heap.size, 1, none⟩ = some (.int .i64 a) := cell_later hB2 (by go_simp)
  have c0_2 : w2.cell? ⟨w.heap.size + 1, 0, none⟩ = some (.int .i64 c) := cell_later hB2 (by go_simp)
  have c1_2 : w2.cell? ⟨w.heap.size + 1, 1, none⟩ = some (.int .i64 d) := cell_later hB2 (by go_simp)
  have r0_2 : w2.cell? ⟨w.heap.size + 1 + 1, 0, none⟩ = some (.int .i64 0) := cell_later hB2 (by go_simp)
  have r1_2 : w2.cell? ⟨w.heap.size + 1 + 1, 1, none⟩ = some (.int .i64 0) := cell_later hB2 (by go_simp)
  have r2_2 : w2.cell? ⟨w.heap.size + 1 + 1, 2, none⟩ = some (.bool false) := cell_later hB2 (by go_simp)
  have r3_2 : w2.cell? ⟨w.heap.size + 1 + 1, 3, none⟩ = some (.bool false) := cell_later hB2 (by go_simp)
  have r4_2 : w2.cell? ⟨w.heap.size + 1 + 1, 4, none⟩ = some (.bool false) := cell_later hB2 (by go_simp)
  have k0_2 : w2.cell? ⟨kb, 0, none⟩ = some (.int .i64 k) := cell_later hB2 (by go_simp)
  have f0_2 : w2.frozen? ⟨w.heap.size + 1 + 1, 0, none⟩ = false := keepFr hB2 (by first | omega | (simp; omega) | simp) (by go_simp)
  have f1_2 : w2.frozen? ⟨w.heap.size + 1 + 1, 1, none⟩ = false := keepFr hB2 (by first | omega | (simp; omega) | simp) (by go_simp)
  have f2_2 : w2.frozen? ⟨w.heap.size + 1 + 1, 2, none⟩ = false := keepFr hB2 (by first | omega | (simp; omega) | simp) (by go_simp)
  have f3_2 : w2.frozen? ⟨w.heap.size + 1 + 1, 3, none⟩ = false := keepFr hB2 (by first | omega | (simp; omega) | simp) (by go_simp)
  have f4_2 : w2.frozen? ⟨w.heap.size + 1 + 1, 4, none⟩ = false := keepFr hB2 (by first | omega | (simp; omega) | simp) (by go_simp)
  clear hB2 bl1 z0_1 z1_1 z2_1 zk_1 a0_1 a1_1 c0_1 c1_1 k0_1 r0_1 r1_1 r2_1 r3_1 r4_1 f0_1 f1_1 f2_1 f3_1 f4_1
  go_wp2_with fail
  refine (G _).out.mono ?_
  rintro e3 w3 ⟨rfl, hB3⟩
  have z2_3 : w.heap.size + 1 + 1 < w3.heap.size := by have := hB3.size; omega
  have bl3 : Below w.heap.size w w3 := bl2.trans (hB3.mono (by omega))
  have z0_3 : w.heap.size < w3.heap.size := by omega
  have z1_3 : w.heap.size + 1 < w3.heap.size := by omega
  have zk_3 : kb < w3.heap.size := by omega
  have a0_3 : w3.cell? ⟨w.heap.size, 0, none⟩ = some (.int .i64 a) := cell_later hB3 (by go_simp)
  have a1_3 : w3.cell? ⟨w.heap.size, 1, none⟩ = some (.int .i64 a) := cell_later hB3 (by go_simp)
  have c0_3 : w3.cell? ⟨w.heap.size + 1, 0, none⟩ = some (.int .i64 c) := cell_later hB3 (by go_simp)
  have c1_3 : w3.cell? ⟨w.heap.size + 1, 1, none⟩ = some (.int .i64 d) := cell_later hB3 (by go_simp)
  have r0_3 : w3.cell? ⟨w.heap.size + 1 + 1, 0, none⟩ = some (.int .i64 0) := cell_later hB3 (by go_simp)
  have r1_3 : w3.cell? ⟨w.heap.size + 1 + 1, 1, none⟩ = some (.int .i64 0) := cell_later hB3 (by go_simp)
  have r2_3 : w3.cell? ⟨w.heap.size + 1 + 1, 2, none⟩ = some (.bool false) := cell_later hB3 (by go_simp)
  have r3_3 : w3.cell? ⟨w.heap.size + 1 + 1, 3, none⟩ = some (.bool false) := cell_later hB3 (by go_simp)
  have r4_3 : w3.cell? ⟨w.heap.size + 1 + 1, 4, none⟩ = some (.bool false) := cell_later hB3 (by go_simp)
  have k0_3 : w3.cell? ⟨kb, 0, none⟩ = some (.int .i64 k) := cell_later hB3 (by go_simp)
  have f0_3 : w3.frozen? ⟨w.heap.size + 1 + 1, 0, none⟩ = false := keepFr hB3 (by first | omega | (simp; omega) | simp) (by go_simp)
  have f1_3 : w3.frozen? ⟨w.heap.size + 1 + 1, 1, none⟩ = false := keepFr hB3 (by first | omega | (simp; omega) | simp) (by go_simp)
  have f2_3 : w3.frozen? ⟨w.heap.size + 1 + 1, 2, none⟩ = false := keepFr hB3 (by first | omega | (simp; omega) | simp) (by go_simp)
  have f3_3 : w3.frozen? ⟨w.heap.size + 1 + 1, 3, none⟩ = false := keepFr hB3 (by first | omega | (simp; omega) | simp) (by go_simp)
  have f4_3 : w3.frozen? ⟨w.heap.size + 1 + 1, 4, none⟩ = false := keepFr hB3 (by first | omega | (simp; omega) | simp) (by go_simp)
  clear hB3 bl2 z0_2 z1_2 z2_2 zk_2 a0_2 a1_2 c0_2 c1_2 k0_2 r0_2 r1_2 r2_2 r3_2 r4_2 f0_2 f1_2 f2_2 f3_2 f4_2
  go_wp2_with fail
  refine (SR _).out.mono ?_
  rintro e4 w4 ⟨rfl, hB4⟩
  have z2_4 : w.heap.size + 1 + 1 < w4.heap.size := by have := hB4.size; omega
  have bl4 : Below w.heap.size w w4 := bl3.trans (hB4.mono (by omega))
  have z0_4 : w.heap.size < w4.heap.size := by omega
  have z1_4 : w.heap.size + 1 < w4.heap.size := by omega
  have zk_4 : kb < w4.heap.size := by omega
  have a0_4 : w4.cell? ⟨w.heap.size, 0, none⟩ = some (.int .i64 a) := cell_later hB4 (by go_simp)
  have a1_4 : w4.cell? ⟨w.heap.size, 1, none⟩ = some (.int .i64 a) := cell_later hB4 (by go_simp)
  have c0_4 : w4.cell? ⟨w.heap.size + 1, 0, none⟩ = some (.int .i64 c) := cell_later hB4 (by go_simp)
  have c1_4 : w4.cell? ⟨w.heap.size + 1, 1, none⟩ = some (.int .i64 d) := cell_later hB4 (by go_simp)
  have r0_4 : w4.cell? ⟨w.heap.size + 1 + 1, 0, none⟩ = some (.int .i64 0) := cell_later hB4 (by go_simp)
  have r1_4 : w4.cell? ⟨w.heap.size + 1 + 1, 1, none⟩ = some (.int .i64 0) := cell_later hB4 (by go_simp)
  have r2_4 : w4.cell? ⟨w.heap.size + 1 + 1, 2, none⟩ = some (.bool false) := cell_later hB4 (by go_simp)
  have r3_4 : w4.cell? ⟨w.heap.size + 1 + 1, 3, none⟩ = some (.bool false) := cell_later hB4 (by go_simp)
  have r4_4 : w4.cell? ⟨w.heap.size + 1 + 1, 4, none⟩ = some (.bool false) := cell_later hB4 (by go_simp)
  have k0_4 : w4.cell? ⟨kb, 0, none⟩ = some (.int .i64 k) := cell_later hB4 (by go_simp)
  have f0_4 : w4.frozen? ⟨w.heap.size + 1 + 1, 0, none⟩ = false := keepFr hB4 (by first | omega | (simp; omega) | simp) (by go_simp)
  have f1_4 : w4.frozen? ⟨w.heap.size + 1 + 1, 1, none⟩ = false := keepFr hB4 (by first | omega | (simp; omega) | simp) (by go_simp)
  have f2_4 : w4.frozen? ⟨w.heap.size + 1 + 1, 2, none⟩ = false := keepFr hB4 (by first | omega | (simp; omega) | simp) (by go_simp)
  have f3_4 : w4.frozen? ⟨w.heap.size + 1 + 1, 3, none⟩ = false := keepFr hB4 (by first | omega | (simp; omega) | simp) (by go_simp)
  have f4_4 : w4.frozen? ⟨w.heap.size + 1 + 1, 4, none⟩ = false := keepFr hB4 (by first | omega | (simp; omega) | simp) (by go_simp)
  clear hB4 bl3 z0_3 z1_3 z2_3 zk_3 a0_3 a1_3 c0_3 c1_3 k0_3 r0_3 r1_3 r2_3 r3_3 r4_3 f0_3 f1_3 f2_3 f3_3 f4_3
  go_wp2
  refine bodyPost_ret (v := EffV (x) (y) true false false) (by simp [results, Try.results88, go_sem, r0_4, r1_4, r2_4, r3_4, r4_4, EffV]) rfl ⟨rfl, ?_⟩
  exact (((bl4.setCell (by simp; try omega) _).setCell (by simp; try omega) _).setCell (by simp; try omega) _)

end Go.Proofs.Ytgkhldbnljdeiaa

/- The bit operators of layer 4: what Binary makes of them is what binS says. -/
namespace Go.Proofs.Ytgkhldbnljdeiaa
open Go.RowKit RangesMath Go.MapKept

theorem ent_b1 : Enters 82 := fun _ _ => by kernel_rfl
theorem ent_b2 : Enters 86 := fun _ _ => by kernel_rfl
theorem ent_b3 : Enters 88 := fun _ _ => by kernel_rfl
theorem bits_eff (op k a b c d x y : Int) (s t u : Bool) (g i : Nat) (hf : ∀ n, Instr.findNow (.int .i64) (.int .i64 op) (bitwiseEs n).toList 0 = some (some (i, .func (.func g) #[] #[.pointer (some ⟨n, 0, none⟩)]))) (hE : Enters g) (hM : MakesAt g k a b c d x y s t u) (w : World) :
    Calls Try.prog 59 #[.int .i64 k] w (FindEff op a b c d x y s t u w) := by
  refine (pbitwise k w).mono ?_
  rintro e w' ⟨b', rfl, hb, hl, hk, hz, hB⟩
  refine ⟨_, g, _, rfl, hB, run_look Try.underlying100 Try.underlying3 hb (hf _) true, hE, ?_⟩
  intro w2 h2
  exact hM w.heap.size w2 (Nat.lt_of_lt_of_le hz h2.size) ((h2.cell (p := ⟨w.heap.size, 0, none⟩) hz).trans hk)
/-- Binary, where the kind has numbers and the operator is one of bits: from what its closure makes. -/
theorem binary_bits (op k a b c d x y : Int) (s t u : Bool) (hk : k = 1 ∨ k = 2) (ho : 8 ≤ op ∧ op ≤ 10) (F : ∀ w, Calls Try.prog 59 #[.int .i64 k] w (FindEff op a b c d x y s t u w)) (h1 : okB k a b = true) (h2 : okB k c d = true) (w : World) :
    Calls Try.prog 21 #[.int .i64 op, .int .i64 k, .agg #[.int .i64 a, .int .i64 b], .agg #[.int .i64 c, .int .i64 d]] w fun e w' => e = .returned (.tuple #[.agg #[.int .i64 x, .int .i64 y, .bool s, .bool t, .bool u], .int .i64 0]) ∧ Below w.heap.size w w' := by
  have A := are2_any k a b c d
  rw [h1, h2] at A
  have C := comp_nil k op (by simp only [cmpOK, Bool.and_eq_false_iff, decide_eq_false_iff_not]; omega)
  refine pbinary_ok op k a b c d x y s t u w (fun w => Lib.hid ?_) A
  rcases hk with rfl | rfl
  · exact pbof_bits_1 op a b c d x y s t u w C (fun w => Lib.hid (F w))
  · exact pbof_bits_2 op a b c d x y s t u w C (fun w => Lib.hid (F w))

theorem sing_yes (a : Int) : Sing a a true := fun w => Lib.hid (by have e := psingle_any a a w; rwa [beq_self_eq_true] at e)
theorem sing_no {a b : Int} (h : ¬ a = b) : Sing a b false := fun w => Lib.hid (by have e := psingle_any a b w; rwa [show (a == b) = false by simpa using h] at e)
theorem sure_of (x y : Int) : Sure x y := fun w => Lib.hid (psure_any x y w)
theorem only_of (v : Int) : Only v := fun w => Lib.hid (ponly v w)

theorem bits_and (k a b c d : Int) : MakesAt 82 k a b c d (bitsS 8 k a b c d).1 (bitsS 8 k a b c d).2 true false false := by
  intro kb w hkb hk
  by_cases s : a = b ∧ c = d
  · obtain ⟨rfl, rfl⟩ := s
    have e : bitsS 8 k a a c c = (bits .and .i64 a c, bits .and .i64 a c) := by unfold bitsS; rw [if_pos ⟨rfl, rfl⟩]; rfl
    rw [e]
    exact pbitw_1s a c k kb w hkb hk (sing_yes a) (sing_yes c) (only_of _)
  · have e : bitsS 8 k a b c d = conjS k a b c d := by unfold bitsS conjS; rw [if_neg s, if_pos rfl]; rfl
    rw [e]
    have G : Gives 85 #[.int .i64 k, .agg #[.int .i64 a, .int .i64 b], .agg #[.int .i64 c, .int .i64 d]] (conjS k a b c d).1 (conjS k a b c d).2 := fun w => Lib.hid (pconj_any k a b c d w)
    by_cases ha : a = b
    · subst ha
      exact pbitw_1m a c d k _ _ kb w hkb hk (sing_yes a) (sing_no (by simpa using s)) G (sure_of _ _)
    · exact pbitw_1n a b c d k _ _ kb w hkb hk (sing_no ha) G (sure_of _ _)

theorem bits_xor (k a b c d : Int) (h1 : Ok64 a b) (h2 : Ok64 c d) : MakesAt 86 k a b c d (bitsS 9 k a b c d).1 (bitsS 9 k a b c d).2 true false false := by
  intro kb w hkb hk
  by_cases s : a = b ∧ c = d
  · obtain ⟨rfl, rfl⟩ := s
    have e : bitsS 9 k a a c c = (bits .xor .i64 a c, bits .xor .i64 a c) := by unfold bitsS; rw [if_pos ⟨rfl, rfl⟩]; rfl
    rw [e]
    exact pbitw_2s a c k kb w hkb hk (sing_yes a) (sing_yes c) (only_of _)
  · have e : bitsS 9 k a b c d = fillS k 0 a b c d := by unfold bitsS fillS; rw [if_neg s, if_neg (by omega), if_pos rfl]; rfl
    rw [e]
    have G : Gives 87 #[.int .i64 k, .int .i64 0, .agg #[.int .i64 a, .int .i64 b], .agg #[.int .i64 c, .int .i64 d]] (fillS k 0 a b c d).1 (fillS k 0 a b c d).2 := fun w => Lib.hid (pfill_any k 0 a b c d w h1.hi h2.hi h1.le h2.le)
    by_cases ha : a = b
    · subst ha
      exact pbitw_2m a c d k _ _ kb w hkb hk (sing_yes a) (sing_no (by simpa using s)) G (sure_of _ _)
    · exact pbitw_2n a b c d k _ _ kb w hkb hk (sing_no ha) G (sure_of _ _)

theorem bits_or (k a b c d : Int) (h1 : Ok64 a b) (h2 : Ok64 c d) : MakesAt 88 k a b c d (bitsS 10 k a b c d).1 (bitsS 10 k a b c d).2 true false false := by
  intro kb w hkb hk
  by_cases s : a = b ∧ c = d
  · obtain ⟨rfl, rfl⟩ := s
    have e : bitsS 10 k a a c c = (bits .or .i64 a c, bits .or .i64 a c) := by unfold bitsS; rw [if_pos ⟨rfl, rfl⟩]; rfl
    rw [e]
    exact pbitw_3s a c k kb w hkb hk (sing_yes a) (sing_yes c) (only_of _)
  · have e : bitsS 10 k a b c d = fillS k (max a c) a b c d := by unfold bitsS fillS; rw [if_neg s, if_neg (by omega), if_neg (show ¬ (10 : Int) = 9 by omega)]; rfl
    rw [e]
    have G : Gives 87 #[.int .i64 k, .int .i64 (max a c), .agg #[.int .i64 a, .int .i64 b], .agg #[.int .i64 c, .int .i64 d]] (fillS k (max a c) a b c d).1 (fillS k (max a c) a b c d).2 := fun w => Lib.hid (pfill_any k (max a c) a b c d w h1.hi h2.hi h1.le h2.le)
    revert G
    generalize fillS k (max a c) a b c d = F
    intro G
    by_cases h3 : a < c
    · rw [show max a c = c by omega] at G
      by_cases ha : a = b
      · subst ha
        exact pbitw_3mlt a c d k _ _ kb w hkb hk (sing_yes a) (sing_no (by simpa using s)) h3 G (sure_of _ _)
      · exact pbitw_3nlt a b c d k _ _ kb w hkb hk (sing_no ha) h3 G (sure_of _ _)
    · rw [show max a c = a by omega] at G
      by_cases ha : a = b
      · subst ha
        exact pbitw_3mge a c d k _ _ kb w hkb hk (sing_yes a) (sing_no (by simpa using s)) (by omega) G (sure_of _ _)
      · exact pbitw_3nge a b c d k _ _ kb w hkb hk (sing_no ha) (by omega) G (sure_of _ _)

theorem bin_and (k a b c d : Int) (hk : k = 1 ∨ k = 2) (h1 : checkErr k a b = 0) (h2 : checkErr k c d = 0) : BinIs 8 k a b c d := fun w =>
  binary_bits 8 k a b c d _ _ true false false hk (by omega) (fun w => bits_eff 8 k a b c d _ _ true false false 82 0 (fun n => rfl) ent_b1 (bits_and k a b c d) w) (okB_of h1) (okB_of h2) w
theorem bin_xor (k a b c d : Int) (hk : k = 1 ∨ k = 2) (h1 : checkErr k a b = 0) (h2 : checkErr k c d = 0) : BinIs 9 k a b c d := fun w =>
  binary_bits 9 k a b c d _ _ true false false hk (by omega) (fun w => bits_eff 9 k a b c d _ _ true false false 86 1 (fun n => rfl) ent_b2 (bits_xor k a b c d (check_ok64 h1) (check_ok64 h2)) w) (okB_of h1) (okB_of h2) w
theorem bin_or (k a b c d : Int) (hk : k = 1 ∨ k = 2) (h1 : checkErr k a b = 0) (h2 : checkErr k c d = 0) : BinIs 10 k a b c d := fun w =>
  binary_bits 10 k a b c d _ _ true false false hk (by omega) (fun w => bits_eff 10 k a b c d _ _ true false false 88 2 (fun n => rfl) ent_b3 (bits_or k a b c d (check_ok64 h1) (check_ok64 h2)) w) (okB_of h1) (okB_of h2) w

end Go.Proofs.Ytgkhldbnljdeiaa
