/- The contracts of the functions that compare slices of numbers. -/
import Derived.Test.YtgjefdmmaieplaaDoorProg
import Derived.Test.YtgjefdmmaieplaaDoorEvB1
import Derived.KernelRfl
import Derived.Lib.Hide
import Derived.LoopTactic
import Derived.RegionTactic
import Derived.WalkKit
import Derived.WalkSpells
import Derived.WalkLawsBesides
import Derived.Deep.DeepCutAuto
import Derived.Deep.QuietTactic
import Derived.BigQuiet
set_option linter.unusedVariables false
set_option linter.unusedSimpArgs false
namespace Go.Proofs.YtgjefdmmaieplaaDoor
open Go.Ev Go.RowKit
set_option maxRecDepth 100000
/-- a slice that holds some numbers -/
def Ints (w : World) (v : Value) (xs : List Int) : Prop :=
  xs.length ≤ 9223372036854775807 ∧ ((v = .slice none 0 0 ∧ xs = []) ∨ ∃ a c, v = .slice (some a) xs.length c ∧ xs.length ≤ c ∧ ∀ k, k < xs.length → w.cell? (a.add k) = some (.int .i64 (xs.getD k 0)))
theorem Ints.grow {W w : World} {v : Value} {xs : List Int} (h : Ints W v xs) (g : Grow W w) : Ints w v xs := by
  obtain ⟨h0, h | ⟨B, c, h1, h2, h3⟩⟩ := h
  · exact ⟨h0, Or.inl h⟩
  · refine ⟨h0, Or.inr ⟨B, c, h1, h2, fun k hk => ?_⟩⟩
    have := h3 k hk
    rw [g.cell (p := B.add k) (World.block_lt_of_cell? W _ this)]
    exact this
theorem pre_getD {xs ys : List Int} (h : xs <+: ys) {k : Nat} (hk : k < xs.length) : xs.getD k 0 = ys.getD k 0 := by
  obtain ⟨t, rfl⟩ := h
  simp [List.getD, List.getElem?_append_left hk]
theorem begins_nil {w : World} {p : Option Addr} {c : Nat} {y : Value} {ys : List Int} (hy : Ints w y ys) : Calls Tryd.prog 18 #[.slice p 0 c, y] w fun e w' => e = .returned (.bool true) ∧ Below w.heap.size w w' := by
  obtain ⟨my, ⟨rfl, rfl⟩ | ⟨B, c, rfl, hc, cy⟩⟩ := hy
  all_goals
    try clear cy
    go_enter Tryd.func18, Tryd.ntmps18
    go_wp2
    go_loop [5] (fun i => i = .int .i64 0) (fun _ => 0)
    case atStart => rfl
    case round =>
      subst hrel
      go_wp2
      go_ret
      exact ⟨rfl, Below.refl _ _⟩
theorem begins_none {w : World} {p : Option Addr} {c n : Nat} (h : 0 < n) (hm : n ≤ 9223372036854775807) : Calls Tryd.prog 18 #[.slice p n c, .slice none 0 0] w fun e w' => e = .returned (.bool false) ∧ Below w.heap.size w w' := by
  go_enter Tryd.func18, Tryd.ntmps18
  go_wp2
  go_loop [5] (fun i => i = .int .i64 0) (fun _ => 0)
  case atStart => rfl
  case round =>
    subst hrel
    have h2 : (0 : Int) < (n : Int) := by omega
    have h3 : ¬ (n : Int) ≤ 0 := by omega
    go_wp2
    go_ret
    exact ⟨by show Ending.returned (Value.bool (decide (n = 0))) = _; rw [decide_eq_false (by omega)], Below.refl _ _⟩
/-- the loop, as long as the numbers are the same -/
theorem begins_loop {w : World} {B B2 : Addr} {c c2 : Nat} {xs ys : List Int} {r : Bool} (mx : xs.length ≤ 9223372036854775807) (my : ys.length ≤ 9223372036854775807)
    (cx : ∀ k, k < xs.length → w.cell? (B.add k) = some (.int .i64 (xs.getD k 0))) (cy : ∀ k, k < ys.length → w.cell? (B2.add k) = some (.int .i64 (ys.getD k 0)))
    (yes : Hid ((∀ k, k < xs.length → k < ys.length → xs.getD k 0 = ys.getD k 0) → r = decide (xs.length ≤ ys.length))) (no : Hid (∀ k, k < xs.length → k < ys.length → ¬ xs.getD k 0 = ys.getD k 0 → r = false)) :
    Calls Tryd.prog 18 #[.slice (some B) xs.length c, .slice (some B2) ys.length c2] w fun e w' => e = .returned (.bool r) ∧ Below w.heap.size w w' := by
  have CX := Lib.hid cx
  have CY := Lib.hid cy
  clear cx cy
  go_enter Tryd.func18, Tryd.ntmps18
  go_wp2
  go_loopw [5] (fun i wr => ∃ k : Nat, k ≤ xs.length ∧ k ≤ ys.length ∧ i = .int .i64 k ∧ (∀ j, j < k → xs.getD j 0 = ys.getD j 0) ∧ Below w.heap.size w wr) (fun i _ => xs.length - (intOf i).toNat)
  case atStart => exact ⟨0, Nat.zero_le _, Nat.zero_le _, rfl, fun j hj => absurd hj (Nat.not_lt_zero j), Below.refl _ _⟩
  case round =>
    obtain ⟨k, hk, hk2, rfl, hs, hb⟩ := hrel
    have HS := Lib.hid hs
    clear hs
    by_cases hlt : k < xs.length
    · by_cases hlt2 : k < ys.length
      · have h1 := CX.out k hlt
        have h2 := CY.out k hlt2
        rw [← hb.cell (p := B.add k) (World.block_lt_of_cell? w _ h1)] at h1
        rw [← hb.cell (p := B2.add k) (World.block_lt_of_cell? w _ h2)] at h2
        by_cases he : xs.getD k 0 = ys.getD k 0
        · have HE := Lib.hid he
          rw [he] at h1
          clear he
          obtain ⟨z, hz⟩ : ∃ z, ys.getD k 0 = z := ⟨_, rfl⟩
          rw [hz] at h1 h2
          clear hz
          go_wp2
          go_quiet (fail)
          go_wp2
          go_roundw
          case rel => exact ⟨k + 1, by omega, by omega, by go_num, fun j hj => by
            by_cases e : j = k
            · subst e; exact HE.out
            · exact HS.out j (by omega), ⟨hb.os, hb.tape, hb.output, hb.size, hb.block⟩⟩
          case measure => simp [intOf]; omega
        · have hr := Lib.hid (no.out k hlt hlt2 he)
          obtain ⟨z, hz⟩ : ∃ z, xs.getD k 0 = z := ⟨_, rfl⟩
          obtain ⟨z2, hz2⟩ : ∃ z, ys.getD k 0 = z := ⟨_, rfl⟩
          rw [hz, hz2] at he
          rw [hz] at h1
          rw [hz2] at h2
          clear hz hz2
          have hne : (z == z2) = false := by simpa using he
          have hne2 : (!(z == z2)) = true := by rw [hne]; rfl
          have hne3 : (z != z2) = true := hne2
          go_wp2
          go_quiet (fail)
          go_wp2
          go_ret
          exact ⟨by rw [hr.out]; rfl, ⟨hb.os, hb.tape, hb.output, hb.size, hb.block⟩⟩
      · have hr := Lib.hid ((yes.out fun j hj hj2 => HS.out j (by omega)).trans (decide_eq_false (by omega)))
        have h5 : ¬ xs.length ≤ ys.length := by omega
        go_wp2
        go_ret
        exact ⟨by rw [hr.out]; rfl, hb⟩
    · have hr := Lib.hid ((yes.out fun j hj hj2 => HS.out j (by omega)).trans (decide_eq_true (by omega)))
      have h5 : xs.length ≤ ys.length := by omega
      go_wp2
      go_ret
      exact ⟨by rw [hr.out]; rfl, hb⟩
theorem pre_iff {xs ys : List Int} (hl : xs.length ≤ ys.length) : xs <+: ys ↔ ∀ k, k < xs.length → xs.getD k 0 = ys.getD k 0 := by
  constructor
  · intro h k hk; exact pre_getD h hk
  · intro h
    refine ⟨ys.drop xs.length, ?_⟩
    apply List.ext_getElem?
    intro i
    by_cases hi : i < xs.length
    · rw [List.getElem?_append_left hi]
      have h1 := h i hi
      have hi2 : i < ys.length := by omega
      simp [List.getD, List.getElem?_eq_getElem hi, List.getElem?_eq_getElem hi2] at h1
      rw [List.getElem?_eq_getElem hi, List.getElem?_eq_getElem hi2, h1]
    · rw [List.getElem?_append_right (by omega), List.getElem?_drop]
      congr 1; omega
theorem begins_any {w : World} {x y : Value} {xs ys : List Int} (hx : Ints w x xs) (hy : Ints w y ys) : Calls Tryd.prog 18 #[x, y] w fun e w' => e = .returned (.bool (decide (xs <+: ys))) ∧ Below w.heap.size w w' := by
  by_cases h0 : xs = []
  · subst h0
    have : decide (([] : List Int) <+: ys) = true := by simp
    rw [this]
    obtain ⟨mx, ⟨rfl, _⟩ | ⟨B, c, rfl, hc, cx⟩⟩ := hx
    · exact begins_nil hy
    · exact begins_nil hy
  · obtain ⟨mx, ⟨rfl, h⟩ | ⟨B, c, rfl, hc, cx⟩⟩ := hx
    · exact absurd h h0
    · have hp : 0 < xs.length := List.length_pos_iff.2 h0
      obtain ⟨my, ⟨rfl, rfl⟩ | ⟨B2, c2, rfl, hc2, cy⟩⟩ := hy
      · have : decide (xs <+: []) = false := by
          rw [decide_eq_false_iff_not]; intro h; exact h0 (List.prefix_nil.1 h)
        rw [this]
        exact begins_none hp mx
      · refine begins_loop mx my cx cy (Lib.hid fun h => ?_) (Lib.hid fun k hk hk2 h => ?_)
        · apply decide_eq_decide.2
          constructor
          · intro hpre; exact hpre.length_le
          · intro hl; exact (pre_iff hl).2 fun k hk => h k hk (by omega)
        · rw [decide_eq_false_iff_not]; intro hp; exact h (pre_getD hp hk)
theorem equal_len {w : World} {p p2 : Option Addr} {n n2 c c2 : Nat} (h : ¬ n = n2) : Calls Tryd.prog 24 #[.slice p n c, .slice p2 n2 c2] w fun e w' => e = .returned (.bool false) ∧ Below w.heap.size w w' := by
  have h2 : ((n : Int) != (n2 : Int)) = true := by simp; omega
  have h3 : ((n : Int) == (n2 : Int)) = false := by simp; omega
  go_enter Tryd.func24, Tryd.ntmps24
  go_wp2
  go_ret
  exact ⟨rfl, Below.refl _ _⟩
theorem equal_nil {w : World} {p p2 : Option Addr} {c c2 : Nat} : Calls Tryd.prog 24 #[.slice p 0 c, .slice p2 0 c2] w fun e w' => e = .returned (.bool true) ∧ Below w.heap.size w w' := by
  go_enter Tryd.func24, Tryd.ntmps24
  go_wp2
  go_loop [13] (fun i => i = .int .i64 0) (fun _ => 0)
  case atStart => rfl
  case round =>
    subst hrel
    go_wp2
    go_ret
    exact ⟨rfl, Below.refl _ _⟩
theorem equal_loop {w : World} {B B2 : Addr} {c c2 n : Nat} {xs ys : List Int} {r : Bool} (mx : n ≤ 9223372036854775807)
    (cx : ∀ k, k < n → w.cell? (B.add k) = some (.int .i64 (xs.getD k 0))) (cy : ∀ k, k < n → w.cell? (B2.add k) = some (.int .i64 (ys.getD k 0)))
    (yes : Hid ((∀ k, k < n → xs.getD k 0 = ys.getD k 0) → r = true)) (no : Hid (∀ k, k < n → ¬ xs.getD k 0 = ys.getD k 0 → r = false)) :
    Calls Tryd.prog 24 #[.slice (some B) n c, .slice (some B2) n c2] w fun e w' => e = .returned (.bool r) ∧ Below w.heap.size w w' := by
  have CX := Lib.hid cx
  have CY := Lib.hid cy
  clear cx cy
  go_enter Tryd.func24, Tryd.ntmps24
  go_wp2
  go_loopw [13] (fun i wr => ∃ k : Nat, k ≤ n ∧ i = .int .i64 k ∧ (∀ j, j < k → xs.getD j 0 = ys.getD j 0) ∧ Below w.heap.size w wr) (fun i _ => n - (intOf i).toNat)
  case atStart => exact ⟨0, Nat.zero_le _, rfl, fun j hj => absurd hj (Nat.not_lt_zero j), Below.refl _ _⟩
  case round =>
    obtain ⟨k, hk, rfl, hs, hb⟩ := hrel
    have HS := Lib.hid hs
    clear hs
    by_cases hlt : k < n
    · have h1 := CX.out k hlt
      have h2 := CY.out k hlt
      rw [← hb.cell (p := B.add k) (World.block_lt_of_cell? w _ h1)] at h1
      rw [← hb.cell (p := B2.add k) (World.block_lt_of_cell? w _ h2)] at h2
      by_cases he : xs.getD k 0 = ys.getD k 0
      · have HE := Lib.hid he
        rw [he] at h1
        clear he
        obtain ⟨z, hz⟩ : ∃ z, ys.getD k 0 = z := ⟨_, rfl⟩
        rw [hz] at h1 h2
        clear hz
        go_wp2
        go_quiet (fail)
        go_wp2
        go_roundw
        case rel => exact ⟨k + 1, by omega, by go_num, fun j hj => by
          by_cases e : j = k
          · subst e; exact HE.out
          · exact HS.out j (by omega), ⟨hb.os, hb.tape, hb.output, hb.size, hb.block⟩⟩
        case measure => simp [intOf]; omega
      · have hr := Lib.hid (no.out k hlt he)
        obtain ⟨z, hz⟩ : ∃ z, xs.getD k 0 = z := ⟨_, rfl⟩
        obtain ⟨z2, hz2⟩ : ∃ z, ys.getD k 0 = z := ⟨_, rfl⟩
        rw [hz, hz2] at he
        rw [hz] at h1
        rw [hz2] at h2
        clear hz hz2
        have hne : (z == z2) = false := by simpa using he
        have hne2 : (!(z == z2)) = true := by rw [hne]; rfl
        have hne3 : (z != z2) = true := hne2
        go_wp2
        go_quiet (fail)
        go_wp2
        go_ret
        exact ⟨by rw [hr.out]; rfl, ⟨hb.os, hb.tape, hb.output, hb.size, hb.block⟩⟩
    · have hr := Lib.hid (yes.out fun j hj => HS.out j (by omega))
      go_wp2
      go_ret
      exact ⟨by rw [hr.out]; rfl, hb⟩
theorem equal_any {w : World} {x y : Value} {xs ys : List Int} (hx : Ints w x xs) (hy : Ints w y ys) : Calls Tryd.prog 24 #[x, y] w fun e w' => e = .returned (.bool (decide (xs = ys))) ∧ Below w.heap.size w w' := by
  have shape : ∀ {v : Value} {zs : List Int}, Ints w v zs → ∃ p c, v = .slice p zs.length c := by
    rintro v zs ⟨_, ⟨rfl, rfl⟩ | ⟨B, c, rfl, _⟩⟩
    · exact ⟨none, 0, rfl⟩
    · exact ⟨_, _, rfl⟩
  by_cases hlen : xs.length = ys.length
  · by_cases h0 : xs.length = 0
    · obtain ⟨p, c, rfl⟩ := shape hx
      obtain ⟨p2, c2, rfl⟩ := shape hy
      have e1 := List.length_eq_zero_iff.1 h0
      have e2 := List.length_eq_zero_iff.1 (hlen.symm.trans h0)
      subst e1; subst e2
      exact equal_nil
    · obtain ⟨mx, ⟨rfl, rfl⟩ | ⟨B, c, rfl, hc, cx⟩⟩ := hx
      · exact absurd rfl h0
      obtain ⟨my, ⟨rfl, rfl⟩ | ⟨B2, c2, rfl, hc2, cy⟩⟩ := hy
      · exact absurd hlen h0
      have hpre : xs <+: ys ↔ xs = ys := ⟨fun h => h.eq_of_length hlen, fun h => by rw [h]; exact List.prefix_refl _⟩
      have hl : xs.length ≤ ys.length := by omega
      rw [← hlen]
      refine equal_loop (xs := xs) (ys := ys) mx cx (fun k hk => cy k (by omega)) (Lib.hid fun h => ?_) (Lib.hid fun k hk h => ?_)
      · rw [decide_eq_true_iff]; exact hpre.1 ((pre_iff hl).2 h)
      · rw [decide_eq_false_iff_not]; intro hp; exact h ((pre_iff hl).1 (hpre.2 hp) k hk)
  · obtain ⟨p, c, rfl⟩ := shape hx
    obtain ⟨p2, c2, rfl⟩ := shape hy
    have : decide (xs = ys) = false := by rw [decide_eq_false_iff_not]; intro h; exact hlen (by rw [h])
    rw [this]
    exact equal_len hlen
end Go.Proofs.YtgjefdmmaieplaaDoor
