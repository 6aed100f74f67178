/- These functions as known calls. -/
import Derived.Test.YtgjefdmmaieplaaDoorIqM
import Derived.Test.YtgjefdmmaieplaaDoorIrO
set_option linter.unusedVariables false
set_option linter.unusedSimpArgs false
namespace Go.Proofs.YtgjefdmmaieplaaDoor
open Go Go.Ev Go.RowKit
theorem two_args {i j : Nat} : ∀ v ∈ [Value.float .f64 i, .float .f64 j], caEq v v = true := by
  intro v hv
  simp at hv
  rcases hv with rfl | rfl <;> exact Nat.beq_refl _
theorem known_equal {W : World} {vals : List Value} {i j : Nat} {x y : Value} {xs ys : List Int} {e : Bool} (hi : denL vals i = x) (hj : denL vals j = y) (hx : Ints W x xs) (hy : Ints W y ys) (he : decide (xs = ys) = e) :
    Known Tryd.prog W vals ⟨24, [.float .f64 i, .float .f64 j], .bool e, []⟩ := by
  refine ⟨⟨_, _, Tryd.func24, rfl⟩, two_args, rfl, rfl, fun w g => ?_⟩
  have := equal_any (hx.grow g) (hy.grow g)
  rw [he, ← hi, ← hj] at this
  exact this
theorem known_begins {W : World} {vals : List Value} {i j : Nat} {x y : Value} {xs ys : List Int} {e : Bool} (hi : denL vals i = x) (hj : denL vals j = y) (hx : Ints W x xs) (hy : Ints W y ys) (he : decide (xs <+: ys) = e) :
    Known Tryd.prog W vals ⟨18, [.float .f64 i, .float .f64 j], .bool e, []⟩ := by
  refine ⟨⟨_, _, Tryd.func18, rfl⟩, two_args, rfl, rfl, fun w g => ?_⟩
  have := begins_any (hx.grow g) (hy.grow g)
  rw [he, ← hi, ← hj] at this
  exact this
/-- the beginning of a slice -/
theorem ints_cut {W : World} {p : Option Addr} {n c m : Nat} {ys : List Int} (hy : Ints W (.slice p n c) ys) (hm : m ≤ n) : Ints W (.slice p m c) (ys.take m) := by
  obtain ⟨my, ⟨h, rfl⟩ | ⟨B, c2, h, hc, cy⟩⟩ := hy
  · injection h with h1 h2 h3; subst h1; subst h2; subst h3
    have : m = 0 := by omega
    subst this
    exact ⟨by simp, Or.inl ⟨rfl, by simp⟩⟩
  · injection h with h1 h2 h3; subst h1; subst h2; subst h3
    have hl : (ys.take m).length = m := by rw [List.length_take]; omega
    refine ⟨by rw [hl]; omega, Or.inr ⟨B, c, by rw [hl], by rw [hl]; omega, fun k hk => ?_⟩⟩
    rw [hl] at hk
    have : (ys.take m).getD k 0 = ys.getD k 0 := by simp [List.getD, List.getElem?_take, hk]
    rw [this]
    exact cy k (by omega)
theorem known_cut {W : World} {vals : List Value} {i j : Nat} {p p2 : Option Addr} {n c n2 c2 : Nat} {xs ys : List Int} {e : Bool} (hi : denL vals i = .slice p n c) (hj : denL vals j = .slice p2 n c2) (en : n = xs.length) (hx : Ints W (.slice p n c) xs) (hy : Ints W (.slice p2 n2 c2) ys) (hm : n ≤ n2) (he : decide (xs <+: ys) = e) :
    Known Tryd.prog W vals ⟨24, [.float .f64 i, .float .f64 j], .bool e, []⟩ := by
  refine known_equal hi hj hx (ints_cut hy hm) ?_
  rw [← he]
  have : (xs = ys.take n) ↔ xs <+: ys := by rw [en]; exact List.prefix_iff_eq_take.symm
  exact decide_eq_decide.2 this
theorem f_cut {W : World} {den : Nat → Value} {a b : Value} {i : Nat} {p2 : Option Addr} {n n2 c2 : Nat} {ys : List Int} (hy : Ints W (.slice p2 n2 c2) ys) (hm : n ≤ n2) (ha : dv den a = .slice p2 n2 c2) (hb : dv den b = .int .i64 n) (hv : den i = .slice p2 n c2) : FactOk den ⟨31, a, b, .float .f64 i⟩ := by
  have ok : okv den (.float .f64 i) = true := by show scal1 (den i) = true; rw [hv]; rfl
  obtain ⟨my, ⟨h, rfl⟩ | ⟨B, c3, h, hc, cy⟩⟩ := hy
  · injection h with h1 h2 h3; subst h1; subst h2; subst h3
    have : n = 0 := by omega
    subst this
    exact .cutn _ _ _ .i64 ha hb ok hv
  · injection h with h1 h2 h3; subst h1; subst h2; subst h3
    exact .cut _ _ _ B _ _ n .i64 ha hb (by omega) ok hv
end Go.Proofs.YtgjefdmmaieplaaDoor
