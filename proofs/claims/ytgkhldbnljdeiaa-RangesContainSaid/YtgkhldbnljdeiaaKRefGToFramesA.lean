/- RefG, FramesA. -/
import Derived.RegionTactic
import Derived.ChangeAlike
import Derived.BigRegion
import Derived.Deep.RegionHeld3
import Derived.Deep.DeepCutAuto
import Derived.Deep.CutBlock
import Derived.Test.YtgkhldbnljdeiaaKRefF
import Derived.Test.YtgkhldbnljdeiaaKSetSelfToRefB
import Derived.ProofKit
import Derived.OpenShut
import Derived.Lib.SmallJoins
set_option linter.unusedSimpArgs false
set_option linter.unusedVariables false
/- The contracts of the reference function left of layer 4, operator by operator. -/
namespace Go.Proofs.Ytgkhldbnljdeiaa
open Go.RowKit
attribute [local go_sem] World.setCell_self

set_option maxRecDepth 100000 in
set_option maxHeartbeats 1000000 in
theorem left_lt_edge1 (a b c d : Int) (w : World) (h : (d == -9223372036854775808) = true) :
    Calls Try.prog 48 #[.int .i64 13, .agg #[.int .i64 a, .int .i64 b], .agg #[.int .i64 c, .int .i64 d]] w fun e w' => e = .returned (.tuple #[.agg #[.int .i64 a, .int .i64 b], .agg #[.int .i64 c, .int .i64 d], .bool false]) ∧ Below w.heap.size w w' := by
  go_enter Try.func48, Try.ntmps48
  go_wp2
  go_region
  go_wp2
  go_region
  go_wp2
  refine bodyPost_ret (v := .tuple #[.agg #[.int .i64 a, .int .i64 b], .agg #[.int .i64 c, .int .i64 d], .bool false]) (by simp [results, Try.results48, go_sem]) rfl ⟨rfl, ?_⟩
  exact (((((Below.refl _ _).alloc (Nat.le_refl _) _).alloc (by simp) _).alloc (by simp; omega) _).alloc (by simp; omega) _).drew.drew

set_option maxRecDepth 100000 in
set_option maxHeartbeats 1000000 in
theorem left_lt_edge2 (a b c d : Int) (w : World) (h : (d == -9223372036854775808) = false) (h2 : (a == 9223372036854775807) = true) :
    Calls Try.prog 48 #[.int .i64 13, .agg #[.int .i64 a, .int .i64 b], .agg #[.int .i64 c, .int .i64 d]] w fun e w' => e = .returned (.tuple #[.agg #[.int .i64 a, .int .i64 b], .agg #[.int .i64 c, .int .i64 d], .bool false]) ∧ Below w.heap.size w w' := by
  go_enter Try.func48, Try.ntmps48
  go_wp2
  go_region
  go_wp2
  go_region
  go_wp2
  refine bodyPost_ret (v := .tuple #[.agg #[.int .i64 a, .int .i64 b], .agg #[.int .i64 c, .int .i64 d], .bool false]) (by simp [results, Try.results48, go_sem]) rfl ⟨rfl, ?_⟩
  exact (((((Below.refl _ _).alloc (Nat.le_refl _) _).alloc (by simp) _).alloc (by simp; omega) _).alloc (by simp; omega) _).drew.drew

set_option maxRecDepth 100000 in
set_option maxHeartbeats 1000000 in
theorem left_eq_yes (a b c d : Int) (w : World) (hab : a ≤ b) (hcd : c ≤ d) (hm : max a c ≤ min b d) :
    Calls Try.prog 48 #[.int .i64 11, .agg #[.int .i64 a, .int .i64 b], .agg #[.int .i64 c, .int .i64 d]] w fun e w' => e = .returned (.tuple #[.agg #[.int .i64 (max a c), .int .i64 (min b d)], .agg #[.int .i64 (max a c), .int .i64 (min b d)], .bool true]) ∧ Below w.heap.size w w' := by
  have con := meet_yes a b c d
  generalize max a c = X at *
  generalize min b d = Y at *
  have CON := fun w => Lib.hid (con w hab hcd hm)
  clear con hm
  go_enter Try.func48, Try.ntmps48
  go_wp2
  go_region
  go_wp2_with (go_at_call 18; refine (CON _).out.mono ?_; rintro e w' ⟨rfl, hB⟩; obtain ⟨hc, hf⟩ := bcell hB; have hz : w.heap.size + 1 + 1 + 1 < w'.heap.size := by have := hB.size; simp at this; omega)
  refine bodyPost_ret (v := .tuple #[.agg #[.int .i64 X, .int .i64 Y], .agg #[.int .i64 X, .int .i64 Y], .bool true]) (by simp [results, Try.results48, go_sem, hc, hz]) rfl ⟨rfl, ?_⟩
  exact ((((((((((((Below.refl _ _).alloc (Nat.le_refl _) _).alloc (by simp) _).alloc (by simp; omega) _).alloc (by simp; omega) _).drew.trans (hB.mono (by simp; omega))).setCell (by simp; omega) _).setCell (by simp; omega) _).setCell (by simp; omega) _).setCell (by simp; omega) _)))

set_option maxRecDepth 100000 in
set_option maxHeartbeats 1000000 in
theorem left_eq_no (a b c d : Int) (w : World) (hab : a ≤ b) (hcd : c ≤ d) (hm : min b d < max a c) :
    Calls Try.prog 48 #[.int .i64 11, .agg #[.int .i64 a, .int .i64 b], .agg #[.int .i64 c, .int .i64 d]] w fun e w' => e = .returned (.tuple #[.agg #[.int .i64 0, .int .i64 0], .agg #[.int .i64 0, .int .i64 0], .bool false]) ∧ Below w.heap.size w w' := by
  have CON := fun w => Lib.hid (meet_no a b c d w hab hcd hm)
  clear hm
  go_enter Try.func48, Try.ntmps48
  go_wp2
  go_region
  go_wp2_with (go_at_call 18; refine (CON _).out.mono ?_; rintro e w' ⟨rfl, hB⟩; obtain ⟨hc, hf⟩ := bcell hB; have hz : w.heap.size + 1 + 1 + 1 < w'.heap.size := by have := hB.size; simp at this; omega)
  refine bodyPost_ret (v := .tuple #[.agg #[.int .i64 0, .int .i64 0], .agg #[.int .i64 0, .int .i64 0], .bool false]) (by simp [results, Try.results48, go_sem, hc, hz]) rfl ⟨rfl, ?_⟩
  exact ((((((((((((Below.refl _ _).alloc (Nat.le_refl _) _).alloc (by simp) _).alloc (by simp; omega) _).alloc (by simp; omega) _).drew.trans (hB.mono (by simp; omega))).setCell (by simp; omega) _).setCell (by simp; omega) _).setCell (by simp; omega) _).setCell (by simp; omega) _)))

set_option maxRecDepth 100000 in
set_option maxHeartbeats 1000000 in
theorem left_gt (a b c d : Int) (w : World) (x0 x1 y0 y1 : Int) (p : Bool) (h : ∀ w, Calls Try.prog 48 #[.int .i64 13, .agg #[.int .i64 c, .int .i64 d], .agg #[.int .i64 a, .int .i64 b]] w fun e w' => e = .returned (.tuple #[.agg #[.int .i64 y0, .int .i64 y1], .agg #[.int .i64 x0, .int .i64 x1], .bool p]) ∧ Below w.heap.size w w') :
    Calls Try.prog 48 #[.int .i64 15, .agg #[.int .i64 a, .int .i64 b], .agg #[.int .i64 c, .int .i64 d]] w fun e w' => e = .returned (.tuple #[.agg #[.int .i64 x0, .int .i64 x1], .agg #[.int .i64 y0, .int .i64 y1], .bool p]) ∧ Below w.heap.size w w' := by
  have CON := Lib.hid h
  clear h
  go_enter Try.func48, Try.ntmps48
  go_wp2_with fail
  go_region
  go_wp2_with (go_at_call 48; refine (CON.out _).mono ?_; rintro e w' ⟨rfl, hB⟩; obtain ⟨hc, hf⟩ := bcell hB; have hz : w.heap.size + 1 + 1 + 1 < w'.heap.size := by have := hB.size; simp at this; omega)
  go_region
  go_wp2
  refine bodyPost_ret (v := .tuple #[.agg #[.int .i64 x0, .int .i64 x1], .agg #[.int .i64 y0, .int .i64 y1], .bool p]) (by simp [results, Try.results48, go_sem, hc, hz]) rfl ⟨rfl, ?_⟩
  exact (((((((((((Below.refl _ _).alloc (Nat.le_refl _) _).alloc (by simp) _).alloc (by simp; omega) _).alloc (by simp; omega) _).drew.trans (hB.mono (by simp; omega))).setCell (by simp; omega) _).setCell (by simp; omega) _).setCell (by simp; omega) _).setCell (by simp; omega) _).drew)

set_option maxRecDepth 100000 in
set_option maxHeartbeats 1000000 in
theorem left_ge (a b c d : Int) (w : World) (x0 x1 y0 y1 : Int) (p : Bool) (h : ∀ w, Calls Try.prog 48 #[.int .i64 14, .agg #[.int .i64 c, .int .i64 d], .agg #[.int .i64 a, .int .i64 b]] w fun e w' => e = .returned (.tuple #[.agg #[.int .i64 y0, .int .i64 y1], .agg #[.int .i64 x0, .int .i64 x1], .bool p]) ∧ Below w.heap.size w w') :
    Calls Try.prog 48 #[.int .i64 16, .agg #[.int .i64 a, .int .i64 b], .agg #[.int .i64 c, .int .i64 d]] w fun e w' => e = .returned (.tuple #[.agg #[.int .i64 x0, .int .i64 x1], .agg #[.int .i64 y0, .int .i64 y1], .bool p]) ∧ Below w.heap.size w w' := by
  have CON := Lib.hid h
  clear h
  go_enter Try.func48, Try.ntmps48
  go_wp2_with fail
  go_region
  go_wp2_with (go_at_call 48; refine (CON.out _).mono ?_; rintro e w' ⟨rfl, hB⟩; obtain ⟨hc, hf⟩ := bcell hB; have hz : w.heap.size + 1 + 1 + 1 < w'.heap.size := by have := hB.size; simp at this; omega)
  go_region
  go_wp2
  refine bodyPost_ret (v := .tuple #[.agg #[.int .i64 x0, .int .i64 x1], .agg #[.int .i64 y0, .int .i64 y1], .bool p]) (by simp [results, Try.results48, go_sem, hc, hz]) rfl ⟨rfl, ?_⟩
  exact (((((((((((Below.refl _ _).alloc (Nat.le_refl _) _).alloc (by simp) _).alloc (by simp; omega) _).alloc (by simp; omega) _).drew.trans (hB.mono (by simp; omega))).setCell (by simp; omega) _).setCell (by simp; omega) _).setCell (by simp; omega) _).setCell (by simp; omega) _).drew)

end Go.Proofs.Ytgkhldbnljdeiaa

/- The frames of the statements of layer 4: from the walk of each law to what is asked. -/
namespace Go.Proofs.Ytgkhldbnljdeiaa
open Go.ChangeShapes Go.WideShapes Go.ChangeAt Go.RowKit Go.Joins

theorem Try.own : ownKnob Try.prog.godebug = none := by kernel_rfl
theorem Try.cellsI : Try.prog.cellsOf 2 = 1 := by kernel_rfl
theorem Try.cellsN : Try.prog.cellsOf 3 = 1 := by kernel_rfl
theorem Try.cellsU : Try.prog.cellsOf 45 = 1 := by kernel_rfl
theorem Try.cellsR : Try.prog.cellsOf 23 = 2 := by kernel_rfl
theorem Try.cellsA : Try.prog.cellsOf 34 = 2 := by kernel_rfl
theorem Try.cellsP : Try.prog.cellsOf 47 = 2 := by kernel_rfl
theorem Try.cellsL : Try.prog.cellsOf 44 = 4 := by kernel_rfl

section
variable {H : Type} {enc : TypeId × Value → H} {W : World} {base : Nat} {spare : Nat → Bool} {held : Bool}

theorem okWide_arr {P : Program} {w : World} {r : Reach} {b0 : Nat} {t : TypeId} {v : Value} {n : Nat} {e : TypeId} (ht : P.underlying t = some (.array n e)) (h : Value.okWide P w r b0 t v) : ∃ cs, v = .agg cs ∧ cs.size = P.cellsOf t := by
  simp only [Value.okWide, ht] at h
  obtain ⟨cs, h1, h2, _⟩ := h
  exact ⟨cs, h1, h2⟩

set_option maxRecDepth 100000 in
theorem open_range {r : Reach} {b0 : Nat} {v : Value} {d : DataW H} {p : List MemPlace} (hv : Value.okWide Try.prog W r b0 23 v) (h : DataW.Trod enc Try.prog W base spare held 23 v d p) :
    ∃ a b : Int, v = .agg #[.int .i64 a, .int .i64 b] ∧ d = .agg [.lit (.int .i64 a), .lit (.int .i64 b)] ∧ p = [] ∧ (Lit.int .i64 a).wf = true ∧ (Lit.int .i64 b).wf = true := by
  obtain ⟨c0, c1, y0, y1, m, rfl, rfl, rfl, hy0, hy1⟩ := open_agg2 Try.underlying23 (by kernel_rfl) Try.cellsR hv h
  obtain ⟨a, e0, rfl, wa⟩ := DataW.trod_int Try.underlying2 hy0
  obtain ⟨b, e1, rfl, wb⟩ := DataW.trod_int Try.underlying2 hy1
  simp at e0 e1
  subst e0 e1
  exact ⟨a, b, rfl, rfl, rfl, wa, wb⟩
set_option maxRecDepth 100000 in
theorem open_ask {r : Reach} {b0 : Nat} {v : Value} {d : DataW H} {p : List MemPlace} (hv : Value.okWide Try.prog W r b0 34 v) (h : DataW.Trod enc Try.prog W base spare held 34 v d p) :
    ∃ a b : Int, v = .agg #[.int .i64 a, .int .i64 b] ∧ d = .agg [.lit (.int .i64 a), .lit (.int .i64 b)] ∧ p = [] ∧ (Lit.int .i64 a).wf = true ∧ (Lit.int .i64 b).wf = true := by
  obtain ⟨c0, c1, y0, y1, m, rfl, rfl, rfl, hy0, hy1⟩ := open_agg2 Try.underlying34 (by kernel_rfl) Try.cellsA hv h
  obtain ⟨a, e0, rfl, wa⟩ := DataW.trod_int Try.underlying3 hy0
  obtain ⟨b, e1, rfl, wb⟩ := DataW.trod_int Try.underlying3 hy1
  simp at e0 e1
  subst e0 e1
  exact ⟨a, b, rfl, rfl, rfl, wa, wb⟩
set_option maxRecDepth 100000 in
theorem open_pick {r : Reach} {b0 : Nat} {v : Value} {d : DataW H} {p : List MemPlace} (hv : Value.okWide Try.prog W r b0 47 v) (h : DataW.Trod enc Try.prog W base spare held 47 v d p) :
    ∃ a b : Int, v = .agg #[.int .u64 a, .int .u64 b] ∧ d = .agg [.lit (.int .u64 a), .lit (.int .u64 b)] ∧ p = [] ∧ (Lit.int .u64 a).wf = true ∧ (Lit.int .u64 b).wf = true := by
  obtain ⟨c0, c1, y0, y1, m, rfl, rfl, rfl, hy0, hy1⟩ := open_agg2 Try.underlying47 (by kernel_rfl) Try.cellsP hv h
  obtain ⟨a, e0, rfl, wa⟩ := DataW.trod_int Try.underlying45 hy0
  obtain ⟨b, e1, rfl, wb⟩ := DataW.trod_int Try.underlying45 hy1
  simp at e0 e1
  subst e0 e1
  exact ⟨a, b, rfl, rfl, rfl, wa, wb⟩
set_option maxRecDepth 100000 in
theorem open_two {r : Reach} {b0 : Nat} {v : Value} {d : DataW H} {p : List MemPlace} (hv : Value.okWide Try.prog W r b0 44 v) (h : DataW.Trod enc Try.prog W base spare held 44 v d p) :
    ∃ a b c e : Int, v = .agg #[.int .i64 a, .int .i64 b, .int .i64 c, .int .i64 e] ∧ d = .agg [.agg [.lit (.int .i64 a), .lit (.int .i64 b)], .agg [.lit (.int .i64 c), .lit (.int .i64 e)]] ∧ p = [] ∧
      (Lit.int .i64 a).wf = true ∧ (Lit.int .i64 b).wf = true ∧ (Lit.int .i64 c).wf = true ∧ (Lit.int .i64 e).wf = true := by
  obtain ⟨cs, rfl, hsz⟩ := okWide_arr Try.underlying44 hv
  obtain ⟨c0, c1, c2, c3, rfl⟩ := array4 (hsz.trans Try.cellsL)
  obtain ⟨fuel, hf⟩ := h
  obtain ⟨xs, m, _, hx, _, hlen, hg⟩ := DataW.trod_array Try.underlying44 hf
  match xs, hlen with
  | [y0, y1], _ =>
    have h0 := hg 0 (by omega)
    have h1 := hg 1 (by omega)
    simp only [Try.cellsR, Value.cells] at h0 h1
    simp at h0 h1
    obtain ⟨z0, z1, n0, ex0, _, h00, h01⟩ := trod_struct2 Try.underlying23 h0
    obtain ⟨z2, z3, n1, ex1, _, h10, h11⟩ := trod_struct2 Try.underlying23 h1
    simp [Try.cellsI] at h00 h01 h10 h11
    obtain ⟨a, e0, rfl, wa⟩ := DataW.trod_int Try.underlying2 h00
    obtain ⟨b, e1, rfl, wb⟩ := DataW.trod_int Try.underlying2 h01
    obtain ⟨c, e2, rfl, wc⟩ := DataW.trod_int Try.underlying2 h10
    obtain ⟨e, e3, rfl, we⟩ := DataW.trod_int Try.underlying2 h11
    simp at e0 e1 e2 e3
    subst e0 e1 e2 e3 ex0 ex1
    simp only [Prod.mk.injEq] at hx
    exact ⟨a, b, c, e, rfl, by simpa using hx.1, by simpa using hx.2, wa, wb, wc, we⟩

theorem shut_range (W' : World) (sp : Nat → Bool) (x y : Int) (wx : (Lit.int IntKind.i64 x).wf = true) (wy : (Lit.int IntKind.i64 y).wf = true) : DataW.Trod enc Try.prog W' 0 sp true 23 (.agg #[.int .i64 x, .int .i64 y]) (.agg [.lit (.int .i64 x), .lit (.int .i64 y)]) [] :=
  shut_agg2 (y0 := (.lit (.int .i64 x), [])) (y1 := (.lit (.int .i64 y), [])) Try.underlying23 (by kernel_rfl) Try.cellsR ⟨1, by simp [DataW.trod, Try.underlying2, wx]⟩ ⟨1, by simp [DataW.trod, Try.underlying2, wy]⟩
theorem shut_ask (W' : World) (sp : Nat → Bool) (x y : Int) (wx : (Lit.int IntKind.i64 x).wf = true) (wy : (Lit.int IntKind.i64 y).wf = true) : DataW.Trod enc Try.prog W' 0 sp true 34 (.agg #[.int .i64 x, .int .i64 y]) (.agg [.lit (.int .i64 x), .lit (.int .i64 y)]) [] :=
  shut_agg2 (y0 := (.lit (.int .i64 x), [])) (y1 := (.lit (.int .i64 y), [])) Try.underlying34 (by kernel_rfl) Try.cellsA ⟨1, by simp [DataW.trod, Try.underlying3, wx]⟩ ⟨1, by simp [DataW.trod, Try.underlying3, wy]⟩
theorem shut_pick (W' : World) (sp : Nat → Bool) (x y : Int) (wx : (Lit.int IntKind.u64 x).wf = true) (wy : (Lit.int IntKind.u64 y).wf = true) : DataW.Trod enc Try.prog W' 0 sp true 47 (.agg #[.int .u64 x, .int .u64 y]) (.agg [.lit (.int .u64 x), .lit (.int .u64 y)]) [] :=
  shut_agg2 (y0 := (.lit (.int .u64 x), [])) (y1 := (.lit (.int .u64 y), [])) Try.underlying47 (by kernel_rfl) Try.cellsP ⟨1, by simp [DataW.trod, Try.underlying45, wx]⟩ ⟨1, by simp [DataW.trod, Try.underlying45, wy]⟩
theorem shut_two (W' : World) (sp : Nat → Bool) (a b c e : Int) (wa : (Lit.int IntKind.i64 a).wf = true) (wb : (Lit.int IntKind.i64 b).wf = true) (wc : (Lit.int IntKind.i64 c).wf = true) (we : (Lit.int IntKind.i64 e).wf = true) :
    DataW.Trod enc Try.prog W' 0 sp true 44 (.agg #[.int .i64 a, .int .i64 b, .int .i64 c, .int .i64 e]) (.agg [.agg [.lit (.int .i64 a), .lit (.int .i64 b)], .agg [.lit (.int .i64 c), .lit (.int .i64 e)]]) [] :=
  ⟨3, by simp [DataW.trod, Value.cells, Try.underlying44, Try.underlying23, Try.underlying2, Try.cellsL, Try.cellsR, Try.cellsI, wa, wb, wc, we, List.range, List.range.loop]⟩
end

end Go.Proofs.Ytgkhldbnljdeiaa
