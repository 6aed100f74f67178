/- For all behaviours the law answers true. -/
import Derived.Test.YtgjefdmmaieplaaDoorIrY
set_option linter.unusedVariables false
namespace Go.Proofs.YtgjefdmmaieplaaDoor
open Go Go.Ev Go.RowKit
theorem ints_shape {W : World} {x : Value} {xs : List Int} (h : Ints W x xs) : ∃ p c, x = .slice p xs.length c := by
  obtain ⟨_, ⟨rfl, rfl⟩ | ⟨B, c, rfl, _⟩⟩ := h
  · exact ⟨none, 0, rfl⟩
  · exact ⟨_, _, rfl⟩
theorem no_pre {xs ys : List Int} (h : ys.length < xs.length) : decide (xs <+: ys) = false := by
  rw [decide_eq_false_iff_not]; intro hp; have := hp.length_le; omega
theorem no_eq {xs ys : List Int} (h : ¬ xs.length = ys.length) : decide (xs = ys) = false := by
  rw [decide_eq_false_iff_not]; intro hp; exact h (by rw [hp])
theorem agrees_ok {W : World} (hL : Laid W) {x y : Value} {xs ys : List Int} (hx : Ints W x xs) (hy : Ints W y ys) (s1 s2 s4 s5 : Int) :
    Calls Tryd.prog 4 #[.agg #[x, .int .i64 s1, .int .i64 s2], .agg #[y, .int .i64 s4, .int .i64 s5]] W (Yes W) := by
  obtain ⟨p, c, rfl⟩ := ints_shape hx
  obtain ⟨p2, c2, rfl⟩ := ints_shape hy
  by_cases la : 3000 < xs.length
  · exact j_along hL hx hy rfl rfl la
  by_cases lb : 3000 < ys.length
  · exact j_blong hL hx hy rfl rfl (by omega) lb
  have za : xs.length ≤ 3000 := by omega
  have zb : ys.length ≤ 3000 := by omega
  rcases Nat.lt_trichotomy xs.length ys.length with h | h | h
  · have hq := no_pre h
    have he := no_eq (xs := xs) (ys := ys) (by omega)
    have he2 := no_eq (xs := ys) (ys := xs) (by omega)
    cases hp : decide (xs <+: ys)
    · exact j_alt0 hL hx hy rfl rfl h za zb hp hq he he2
    · exact j_alt1 hL hx hy rfl rfl h za zb hp hq he he2
  · by_cases e : xs = ys
    · have e2 := e.symm
      exact j_aeq1 hL hx hy rfl rfl h za zb (decide_eq_true (by rw [e]; exact List.prefix_refl _)) (decide_eq_true (by rw [e]; exact List.prefix_refl _)) (decide_eq_true e) (decide_eq_true e2)
    · exact j_aeq0 hL hx hy rfl rfl h za zb (decide_eq_false (fun hp => e (hp.eq_of_length h))) (decide_eq_false (fun hp => e (hp.eq_of_length h.symm).symm)) (decide_eq_false e) (decide_eq_false (fun h => e h.symm))
  · have hp := no_pre h
    have he := no_eq (xs := xs) (ys := ys) (by omega)
    have he2 := no_eq (xs := ys) (ys := xs) (by omega)
    cases hq : decide (ys <+: xs)
    · exact j_agt0 hL hx hy rfl rfl h za zb hp hq he he2
    · exact j_agt1 hL hx hy rfl rfl h za zb hp hq he he2
end Go.Proofs.YtgjefdmmaieplaaDoor
