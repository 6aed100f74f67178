/- GlueU, RngZF. -/
import Derived.Test.YtomjcpgjlhencaaKLawOpsToGlueA
import Derived.Test.YtomjcpgjlhencaaKLawUnary
import Derived.Test.YtomjcpgjlhencaaKLawUnary2
import Derived.Test.YtomjcpgjlhencaaKFrameUnary
import Derived.Test.YtomjcpgjlhencaaKRngZCToRngZE
set_option linter.unusedSimpArgs false
set_option linter.unusedVariables false
/- The statement RangesUnary of layer 4 out of what is asked of the program's functions. -/
namespace Go.Proofs.Ytomjcpgjlhencaa
open Go.RowKit RangesMath

theorem err_cases {e : Int} (h : e = 0 ∨ e = 2) : (e == 0) = true ∨ (e == 0) = false := by rcases h with rfl | rfl <;> simp
theorem toSmallS_err (a b : Int) : (toSmallS a b).2.2 = 0 ∨ (toSmallS a b).2.2 = 2 := by
  unfold toSmallS; split <;> simp

theorem unary_glue (hs : ShownOK') (hu : UnaSpec 19) (ht : SmlSpec 23) (hk : CheckOK 13) : WalkRangesUnary := by
  intro k a b P w _ wa wb wP
  have ia := in64_of wa
  have ib := in64_of wb
  have U := fun j => hu j k a b ia ib
  have E := fun j => err_cases (unaryS_err j k a b)
  have H := fun (j v : Int) (ho : j = 1 ∨ j = 2 ∨ j = 3) (hv : Ok64 a b → a ≤ v ∧ v ≤ b) (he : (unaryS j k a b).2.2 = 0) => unary_holds j k a b v ho he hv
  rcases two k with hk2 | hk2
  · have L := fun x => low_sml hk2 x
    refine unary_walk_small hs k a b P (bounds_u64 wP).1 hk2 _ _ _ _ _ _ _ _ _ _ _ _ w (U 1) (Lib.hid (E 1)) (Lib.hid fun v hv he => ?_) (U 2) (Lib.hid (E 2)) (Lib.hid fun v hv he => ?_) (U 3) (Lib.hid (E 3)) (Lib.hid fun v hv he => ?_) (ht a b ia ib) (Lib.hid (err_cases (toSmallS_err a b))) (Lib.hid fun v hv he => toSmall_holds a b v he hv) (Lib.hid hk)
    · have := H 1 v (by simp) hv he; rw [L] at this; exact this
    · have := H 2 v (by simp) hv he; rw [L] at this; exact this
    · have := H 3 v (by simp) hv he; rw [L] at this; exact this
  · have L := fun x => low_big hk2 x
    refine unary_walk_big hs k a b P (bounds_u64 wP).1 hk2 _ _ _ _ _ _ _ _ _ _ _ _ w (U 1) (Lib.hid (E 1)) (Lib.hid fun v hv he => ?_) (U 2) (Lib.hid (E 2)) (Lib.hid fun v hv he => ?_) (U 3) (Lib.hid (E 3)) (Lib.hid fun v hv he => ?_) (ht a b ia ib) (Lib.hid (err_cases (toSmallS_err a b))) (Lib.hid fun v hv he => toSmall_holds a b v he hv) (Lib.hid hk)
    · have := H 1 v (by simp) hv he; rw [L] at this; exact this
    · have := H 2 v (by simp) hv he; rw [L] at this; exact this
    · have := H 3 v (by simp) hv he; rw [L] at this; exact this

end Go.Proofs.Ytomjcpgjlhencaa

/- ToSmall of layer 4, and the closures of unaries. -/
namespace Go.Proofs.Ytomjcpgjlhencaa
open Go.RowKit RangesMath
attribute [local go_sem] World.setCell_self
attribute [local go_sem ↓] Go.wp_at_zero Go.wp_at_succ

/-- A number as the words of its struct. -/
def NumTo (f : Nat) (args : Array Value) (p q : Int) : Prop := ∀ w, Hid (Calls Try.prog f args w fun e w' => e = .returned (.agg #[.int .i64 p, .int .u64 q]) ∧ Below w.heap.size w w')
/-- around of two numbers. -/
def Arnd (p q r s lp lq hp hq : Int) : Prop := ∀ (g cap : Nat) (w : World), g < w.heap.size → 2 ≤ cap → w.cell? ⟨g, 0, none⟩ = some (.int .i64 p) → w.cell? ⟨g, 1, none⟩ = some (.int .u64 q) → w.cell? ⟨g, 2, none⟩ = some (.int .i64 r) → w.cell? ⟨g, 3, none⟩ = some (.int .u64 s) →
  Calls Try.prog 42 #[.slice (some ⟨g, 0, none⟩) 2 cap] w fun e w' => e = .returned (.agg #[.int .i64 lp, .int .u64 lq, .int .i64 hp, .int .u64 hq]) ∧ Below w.heap.size w w'
def W64 : Int := 18446744073709551616
theorem arnd_any (u v : Int) : Arnd (u / 18446744073709551616) (u % 18446744073709551616) (v / 18446744073709551616) (v % 18446744073709551616) (min u v / 18446744073709551616) (min u v % 18446744073709551616) (max u v / 18446744073709551616) (max u v % 18446744073709551616) := by
  intro g cap w hg hcap c0 c1 c2 c3
  have H : NumsAt w g [u, v] := by
    intro i hi
    match i, hi with
    | 0, _ => exact ⟨c0, c1⟩
    | 1, _ => exact ⟨c2, c3⟩
  exact paround_any [u, v] g cap w hg (by simp) (by simp) hcap H
def IntoTo (k lp lq hp hq x y : Int) : Prop := ∀ w, Hid (Calls Try.prog 44 #[.agg #[.int .i64 lp, .int .u64 lq, .int .i64 hp, .int .u64 hq], .int .i64 k] w (IntoOut x y w))

set_option maxRecDepth 100000 in
set_option maxHeartbeats 4000000 in
theorem psmall_bad (a b : Int) (w : World) (Q : Are1 1 a b false) :
    Calls Try.prog 23 #[.agg #[.int .i64 a, .int .i64 b]] w fun e w' => e = .returned (.tuple #[.agg #[.int .i64 0, .int .i64 0], .int .i64 2]) ∧ Below w.heap.size w w' := by
  have Q := Lib.hid Q
  go_enter Try.func23, Try.ntmps23
  go_wp2_with fail
  have KI : Keeps (w.heap.size) [(w.heap.size, 0, .int .i64 a), (w.heap.size, 1, .int .i64 b)] [(w.heap.size + 1, 0), (w.heap.size + 1, 1)] w ((w.alloc (.cells #[.int .i64 a, .int .i64 b] 23)).alloc (.cells #[.int .i64 0, .int .i64 0] 23)) := by
    refine ⟨?_, ?_, ?_, ?_, by simp; try omega, ((Below.refl _ _).alloc (Nat.le_refl _) _).alloc (by simp) _⟩
    · simp only [List.forall_mem_cons, List.not_mem_nil, false_imp_iff, implies_true, and_true]
      exact ⟨by go_simp, by go_simp⟩
    · simp only [List.forall_mem_cons, List.not_mem_nil, false_imp_iff, implies_true, and_true]
      exact ⟨valAt_some (by go_simp), valAt_some (by go_simp)⟩
    · simp only [List.forall_mem_cons, List.not_mem_nil, false_imp_iff, implies_true, and_true]
      exact ⟨by go_simp, by go_simp⟩
    · simp only [List.forall_mem_cons, List.not_mem_nil, false_imp_iff, implies_true, and_true]
      exact ⟨by simp; try omega, by simp; try omega⟩
  have KI := Lib.hid KI
  refine (Q.out _ _ _ (by simp) (by omega) ⟨by go_simp, by go_simp⟩).mono ?_
  rintro e w1 ⟨rfl, hB⟩
  have K1 := Lib.hid (KI.out.later (((Below.refl _ _).alloc (Nat.le_refl _) _).trans (hB.mono (by simp))))
  clear hB KI
  have k0 : w1.cell? ⟨w.heap.size, 0, none⟩ = some (.int .i64 a) := (K1.out).fixed (w.heap.size, 0, .int .i64 a) (by simp)
  have k1 : w1.cell? ⟨w.heap.size, 1, none⟩ = some (.int .i64 b) := (K1.out).fixed (w.heap.size, 1, .int .i64 b) (by simp)
  have v0 : w1.cell? ⟨w.heap.size + 1, 0, none⟩ = some (valAt w1 ⟨w.heap.size + 1, 0, none⟩) := (K1.out).there (w.heap.size + 1, 0) (by simp)
  have f0 : w1.frozen? ⟨w.heap.size + 1, 0, none⟩ = false := (K1.out).froz (w.heap.size + 1, 0) (by simp)
  have v1 : w1.cell? ⟨w.heap.size + 1, 1, none⟩ = some (valAt w1 ⟨w.heap.size + 1, 1, none⟩) := (K1.out).there (w.heap.size + 1, 1) (by simp)
  have f1 : w1.frozen? ⟨w.heap.size + 1, 1, none⟩ = false := (K1.out).froz (w.heap.size + 1, 1) (by simp)
  have z0 : w.heap.size + 1 < w1.heap.size := (K1.out).lt (w.heap.size + 1, 0) (by simp)
  go_wp2
  have bl := K1.out.bl
  refine bodyPost_ret (v := .tuple #[.agg #[.int .i64 0, .int .i64 0], .int .i64 2]) (by simp [results, Try.results23, go_sem, v0, v1]) rfl ⟨rfl, (bl.setCell (by simp) _).setCell (by simp) _⟩

set_option maxRecDepth 100000 in
set_option maxHeartbeats 4000000 in
theorem psmall_ok (a b p q r s lp lq hp hq x y : Int) (w : World) (Q : Are1 1 a b true) (N1 : NumTo 43 #[.int .i64 a] p q) (N2 : NumTo 43 #[.int .i64 b] r s) (T : IntoTo 2 lp lq hp hq x y) (A : Arnd p q r s lp lq hp hq) :
    Calls Try.prog 23 #[.agg #[.int .i64 a, .int .i64 b]] w fun e w' => e = .returned (.tuple #[.agg #[.int .i64 x, .int .i64 y], .int .i64 0]) ∧ Below w.heap.size w w' := by
  have Q := Lib.hid Q
  have N1 := Lib.hid N1
  have N2 := Lib.hid N2
  have T := Lib.hid T
  have A := Lib.hid A
  go_enter Try.func23, Try.ntmps23
  go_wp2_with fail
  have KI : Keeps (w.heap.size) [(w.heap.size, 0, .int .i64 a), (w.heap.size, 1, .int .i64 b)] [(w.heap.size + 1, 0), (w.heap.size + 1, 1)] w ((w.alloc (.cells #[.int .i64 a, .int .i64 b] 23)).alloc (.cells #[.int .i64 0, .int .i64 0] 23)) := by
    refine ⟨?_, ?_, ?_, ?_, by simp; try omega, ((Below.refl _ _).alloc (Nat.le_refl _) _).alloc (by simp) _⟩
    · simp only [List.forall_mem_cons, List.not_mem_nil, false_imp_iff, implies_true, and_true]
      exact ⟨by go_simp, by go_simp⟩
    · simp only [List.forall_mem_cons, List.not_mem_nil, false_imp_iff, implies_true, and_true]
      exact ⟨valAt_some (by go_simp), valAt_some (by go_simp)⟩
    · simp only [List.forall_mem_cons, List.not_mem_nil, false_imp_iff, implies_true, and_true]
      exact ⟨by go_simp, by go_simp⟩
    · simp only [List.forall_mem_cons, List.not_mem_nil, false_imp_iff, implies_true, and_true]
      exact ⟨by simp; try omega, by simp; try omega⟩
  have KI := Lib.hid KI
  refine (Q.out _ _ _ (by simp) (by omega) ⟨by go_simp, by go_simp⟩).mono ?_
  rintro e w1 ⟨rfl, hB⟩
  have K1 := Lib.hid (KI.out.later (((Below.refl _ _).alloc (Nat.le_refl _) _).trans (hB.mono (by simp))))
  clear hB KI
  go_wp2_with fail
  have ID := K1.out.later (Below.refl _ _).drew
  clear K1
  refine wp_region_held_drew (S := fun w' => w'.cell? ⟨w.heap.size, 0, none⟩ = some (.int .i64 a) ∧ w'.cell? ⟨w.heap.size, 1, none⟩ = some (.int .i64 b) ∧ w'.cell? ⟨w.heap.size + 1, 0, none⟩ = some (valAt w' ⟨w.heap.size + 1, 0, none⟩) ∧ w'.cell? ⟨w.heap.size + 1, 1, none⟩ = some (valAt w' ⟨w.heap.size + 1, 1, none⟩) ∧ w'.frozen? ⟨w.heap.size + 1, 0, none⟩ = false ∧ w'.frozen? ⟨w.heap.size + 1, 1, none⟩ = false ∧ w.heap.size + 1 < w'.heap.size ∧ Keeps (w.heap.size) [(w.heap.size, 0, .int .i64 a), (w.heap.size, 1, .int .i64 b)] [(w.heap.size + 1, 0), (w.heap.size + 1, 1)] w w') (by kernel_rfl) ⟨(ID).fixed (w.heap.size, 0, .int .i64 a) (by simp), (ID).fixed (w.heap.size, 1, .int .i64 b) (by simp), (ID).there (w.heap.size + 1, 0) (by simp), (ID).there (w.heap.size + 1, 1) (by simp), (ID).froz (w.heap.size + 1, 0) (by simp), (ID).froz (w.heap.size + 1, 1) (by simp), (ID).lt (w.heap.size + 1, 0) (by simp), ID⟩ (fun hHeld => ?_)
  refine wpAnyH_take (i := 0) (v := ?_) rfl (by kernel_rfl) (by kernel_rfl) (by kernel_rfl) (fun _ _ _ h => h) (Or.inl ⟨by rfl, ?_⟩) (by assumption) ?_
  rotate_left
  focus (intro w' hSw; (try dsimp only at hSw); go_simp; try with_reducible rfl)
  try simp only [Act.put, List.getElem_toArray, List.getElem_cons_succ, List.getElem_cons_zero, List.setIfInBounds_toArray, List.set_cons_zero, List.set_cons_succ]
  refine wpAnyH_take (i := 1) (v := ?_) rfl (by kernel_rfl) (by kernel_rfl) (by kernel_rfl) (fun _ _ _ h => h) (Or.inl ⟨by rfl, ?_⟩) (by assumption) ?_
  rotate_left
  focus (intro w' hSw; (try dsimp only at hSw); go_simp; try with_reducible rfl)
  try simp only [Act.put, List.getElem_toArray, List.getElem_cons_succ, List.getElem_cons_zero, List.setIfInBounds_toArray, List.set_cons_zero, List.set_cons_succ]
  refine wpAnyH_take (i := 3) (v := ?_) rfl (by kernel_rfl) (by kernel_rfl) (by kernel_rfl) (fun _ _ _ h => h) (Or.inl ⟨by rfl, ?_⟩) (by assumption) ?_
  rotate_left
  focus (intro w' hSw; (try dsimp only at hSw); go_simp; try with_reducible rfl)
  try simp only [Act.put, List.getElem_toArray, List.getElem_cons_succ, List.getElem_cons_zero, List.setIfInBounds_toArray, List.set_cons_zero, List.set_cons_succ]
  refine wpAnyH_take (i := 4) (v := ?_) rfl (by kernel_rfl) (by kernel_rfl) (by kernel_rfl) (fun _ _ _ h => h) (Or.inl ⟨by rfl, ?_⟩) (by assumption) ?_
  rotate_left
  focus (intro w' hSw; (try dsimp only at hSw); go_simp; try with_reducible rfl)
  try simp only [Act.put, List.getElem_toArray, List.getElem_cons_succ, List.getElem_cons_zero, List.setIfInBounds_toArray, List.set_cons_zero, List.set_cons_succ]
  refine wpAnyH_ready (rs := [2]) (by kernel_rfl) (by simp) ?_
  refine AllReadyH.cons rfl (fun K hK => ?_) AllReadyH.nil
  go_simp
  go_at_call 43
  refine ((N1.out _).out).mono ?_
  rintro eq1 wq1 ⟨rfl, hB1⟩
  have I1 := Lib.hid ((ID).later (hB1))
  clear hB1
  go_wp2_with fail
  refine hK.out _ _ ⟨(I1.out).fixed (w.heap.size, 0, .int .i64 a) (by simp), (I1.out).fixed (w.heap.size, 1, .int .i64 b) (by simp), (I1.out).there (w.heap.size + 1, 0) (by simp), (I1.out).there (w.heap.size + 1, 1) (by simp), (I1.out).froz (w.heap.size + 1, 0) (by simp), (I1.out).froz (w.heap.size + 1, 1) (by simp), (I1.out).lt (w.heap.size + 1, 0) (by simp), I1.out⟩ (fun hHeld => ?_)
  clear hK K
  try simp only [Act.put, List.getElem_toArray, List.getElem_cons_succ, List.getElem_cons_zero, List.setIfInBounds_toArray, List.set_cons_zero, List.set_cons_succ]
  refine wpAnyH_ready (rs := [5]) (by kernel_rfl) (by simp) ?_
  refine AllReadyH.cons rfl (fun K hK => ?_) AllReadyH.nil
  go_simp
  go_at_call 43
  refine ((N2.out _).out).mono ?_
  rintro eq2 wq2 ⟨rfl, hB2⟩
  have I2 := Lib.hid ((I1.out).later (hB2))
  clear hB2
  go_wp2_with fail
  refine hK.out _ _ ⟨(I2.out).fixed (w.heap.size, 0, .int .i64 a) (by simp), (I2.out).fixed (w.heap.size, 1, .int .i64 b) (by simp), (I2.out).there (w.heap.size + 1, 0) (by simp), (I2.out).there (w.heap.size + 1, 1) (by simp), (I2.out).froz (w.heap.size + 1, 0) (by simp), (I2.out).froz (w.heap.size + 1, 1) (by simp), (I2.out).lt (w.heap.size + 1, 0) (by simp), I2.out⟩ (fun hHeld => ?_)
  clear hK K
  try simp only [Act.put, List.getElem_toArray, List.getElem_cons_succ, List.getElem_cons_zero, List.setIfInBounds_toArray, List.set_cons_zero, List.set_cons_succ]
  refine wpAnyH_ready (rs := [6]) (by kernel_rfl) (by simp) ?_
  refine AllReadyH.cons rfl (fun K hK => ?_) AllReadyH.nil
  go_simp
  refine hK.out _ _ ⟨(((I2.out).later ((Below.refl _ _).alloc (Nat.le_refl _) _))).fixed (w.heap.size, 0, .int .i64 a) (by simp), (((I2.out).later ((Below.refl _ _).alloc (Nat.le_refl _) _))).fixed (w.heap.size, 1, .int .i64 b) (by simp), (((I2.out).later ((Below.refl _ _).alloc (Nat.le_refl _) _))).there (w.heap.size + 1, 0) (by simp), (((I2.out).later ((Below.refl _ _).alloc (Nat.le_refl _) _))).there (w.heap.size + 1, 1) (by simp), (((I2.out).later ((Below.refl _ _).alloc (Nat.le_refl _) _))).froz (w.heap.size + 1, 0) (by simp), (((I2.out).later ((Below.refl _ _).alloc (Nat.le_refl _) _))).froz (w.heap.size + 1, 1) (by simp), (((I2.out).later ((Below.refl _ _).alloc (Nat.le_refl _) _))).lt (w.heap.size + 1, 0) (by simp), ((I2.out).later ((Below.refl _ _).alloc (Nat.le_refl _) _))⟩ (fun hHeld => ?_)
  clear hK K
  try simp only [Act.put, List.getElem_toArray, List.getElem_cons_succ, List.getElem_cons_zero, List.setIfInBounds_toArray, List.set_cons_zero, List.set_cons_succ]
  refine wpAnyH_ready (rs := [7]) (by kernel_rfl) (by simp) ?_
  refine AllReadyH.cons rfl (fun K hK => ?_) AllReadyH.nil
  go_simp
  go_at_call 42
  refine (A.out _ _ _ (by simp) (by omega) (by go_simp) (by go_simp) (by go_simp) (by go_simp)).mono ?_
  rintro eq4 wq4 ⟨rfl, hB4⟩
  have I4 := Lib.hid ((((I2.out).later ((Below.refl _ _).alloc (Nat.le_refl _) _))).later (hB4))
  clear hB4
  go_wp2_with fail
  refine hK.out _ _ ⟨(I4.out).fixed (w.heap.size, 0, .int .i64 a) (by simp), (I4.out).fixed (w.heap.size, 1, .int .i64 b) (by simp), (I4.out).there (w.heap.size + 1, 0) (by simp), (I4.out).there (w.heap.size + 1, 1) (by simp), (I4.out).froz (w.heap.size + 1, 0) (by simp), (I4.out).froz (w.heap.size + 1, 1) (by simp), (I4.out).lt (w.heap.size + 1, 0) (by simp), I4.out⟩ (fun hHeld => ?_)
  clear hK K
  try simp only [Act.put, List.getElem_toArray, List.getElem_cons_succ, List.getElem_cons_zero, List.setIfInBounds_toArray, List.set_cons_zero, List.set_cons_succ]
  refine wpAnyH_ready (rs := [8]) (by kernel_rfl) (by simp) ?_
  refine AllReadyH.cons rfl (fun K hK => ?_) AllReadyH.nil
  go_simp
  go_at_call 44
  refine ((T.out _).out).mono ?_
  rintro eq5 wq5 ⟨rfl, hB5⟩
  have I5 := Lib.hid ((I4.out).later (hB5))
  clear hB5
  go_wp2_with fail
  refine hK.out _ _ ⟨(I5.out).fixed (w.heap.size, 0, .int .i64 a) (by simp), (I5.out).fixed (w.heap.size, 1, .int .i64 b) (by simp), (I5.out).there (w.heap.size + 1, 0) (by simp), (I5.out).there (w.heap.size + 1, 1) (by simp), (I5.out).froz (w.heap.size + 1, 0) (by simp), (I5.out).froz (w.heap.size + 1, 1) (by simp), (I5.out).lt (w.heap.size + 1, 0) (by simp), I5.out⟩ (fun hHeld => ?_)
  clear hK K
  try simp only [Act.put, List.getElem_toArray, List.getElem_cons_succ, List.getElem_cons_zero, List.setIfInBounds_toArray, List.set_cons_zero, List.set_cons_succ]
  refine wpAnyH_ready (rs := [9]) (by kernel_rfl) (by simp) ?_
  refine AllReadyH.cons rfl (fun K hK => ?_) AllReadyH.nil
  go_simp
  have I6 := Lib.hid (Keeps.set (Keeps.set (I5.out) (w.heap.size + 1) 0 (.int .i64 x) (by simp) (by omega) (by simp; try omega)) (w.heap.size + 1) 1 (.int .i64 y) (by simp) (by omega) (by simp; try omega))
  refine hK.out _ _ ⟨(I6.out).fixed (w.heap.size, 0, .int .i64 a) (by simp), (I6.out).fixed (w.heap.size, 1, .int .i64 b) (by simp), (I6.out).there (w.heap.size + 1, 0) (by simp), (I6.out).there (w.heap.size + 1, 1) (by simp), (I6.out).froz (w.heap.size + 1, 0) (by simp), (I6.out).froz (w.heap.size + 1, 1) (by simp), (I6.out).lt (w.heap.size + 1, 0) (by simp), I6.out⟩ (fun hHeld => ?_)
  clear hK K
  try simp only [Act.put, List.getElem_toArray, List.getElem_cons_succ, List.getElem_cons_zero, List.setIfInBounds_toArray, List.set_cons_zero, List.set_cons_succ]
  refine wpAnyH_take (i := 10) (v := ?_) rfl (by kernel_rfl) (by kernel_rfl) (by kernel_rfl) (fun _ _ _ h => h) (Or.inl ⟨by rfl, ?_⟩) (by assumption) ?_
  rotate_left
  focus (intro w' hSw; (try dsimp only at hSw); go_simp; try with_reducible rfl)
  try simp only [Act.put, List.getElem_toArray, List.getElem_cons_succ, List.getElem_cons_zero, List.setIfInBounds_toArray, List.set_cons_zero, List.set_cons_succ]
  refine wpAnyH_done (by kernel_rfl) ?_ _
  have e0 : wq5.cell? ⟨w.heap.size + 1, 0, none⟩ = some (valAt wq5 ⟨w.heap.size + 1, 0, none⟩) := (I5.out).there (w.heap.size + 1, 0) (by simp)
  have e1 : wq5.cell? ⟨w.heap.size + 1, 1, none⟩ = some (valAt wq5 ⟨w.heap.size + 1, 1, none⟩) := (I5.out).there (w.heap.size + 1, 1) (by simp)
  have bl := (I6.out).bl
  go_wp2
  refine bodyPost_ret (v := .tuple #[.agg #[.int .i64 x, .int .i64 y], .int .i64 0]) (by simp [results, Try.results23, go_sem, e0, e1]) rfl ⟨rfl, bl⟩

set_option maxRecDepth 100000 in
set_option maxHeartbeats 4000000 in
theorem pnegative (k a b p q r s lp lq hp hq x y : Int) (kb : Nat) (w : World) (hkb : kb < w.heap.size) (hk : w.cell? ⟨kb, 0, none⟩ = some (.int .i64 k)) (N1 : NumTo 52 #[.int .i64 0, .int .i64 a] p q) (N2 : NumTo 52 #[.int .i64 0, .int .i64 b] r s) (T : IntoTo k lp lq hp hq x y) (A : Arnd p q r s lp lq hp hq) :
    Calls Try.prog 51 #[.agg #[.int .i64 a, .int .i64 b], .pointer (some ⟨kb, 0, none⟩)] w fun e w' => e = .returned (.agg #[.int .i64 x, .int .i64 y]) ∧ Below w.heap.size w w' := by
  have hk2 : ∀ o1 o2, ((w.alloc o1).alloc o2).cell? ⟨kb, 0, none⟩ = some (.int .i64 k) := by
    intro o1 o2
    rw [(((Below.refl w.heap.size w).alloc (Nat.le_refl _) o1).alloc (by simp) o2).cell (p := ⟨kb, 0, none⟩) hkb]
    exact hk
  clear hk
  have N1 := Lib.hid N1
  have N2 := Lib.hid N2
  have T := Lib.hid T
  have A := Lib.hid A
  go_enter Try.func51, Try.ntmps51
  go_wp2_with fail
  have KI : Keeps (w.heap.size) [(kb, 0, .int .i64 k), (w.heap.size, 0, .int .i64 a), (w.heap.size, 1, .int .i64 b)] [(w.heap.size + 1, 0), (w.heap.size + 1, 1)] w ((w.alloc (.cells #[.int .i64 a, .int .i64 b] 23)).alloc (.cells #[.int .i64 0, .int .i64 0] 23)) := by
    refine ⟨?_, ?_, ?_, ?_, by simp; try omega, ((Below.refl _ _).alloc (Nat.le_refl _) _).alloc (by simp) _⟩
    · simp only [List.forall_mem_cons, List.not_mem_nil, false_imp_iff, implies_true, and_true]
      exact ⟨by go_simp, by go_simp, by go_simp⟩
    · simp only [List.forall_mem_cons, List.not_mem_nil, false_imp_iff, implies_true, and_true]
      exact ⟨valAt_some (by go_simp), valAt_some (by go_simp)⟩
    · simp only [List.forall_mem_cons, List.not_mem_nil, false_imp_iff, implies_true, and_true]
      exact ⟨by go_simp, by go_simp⟩
    · simp only [List.forall_mem_cons, List.not_mem_nil, false_imp_iff, implies_true, and_true]
      exact ⟨by simp; try omega, by simp; try omega⟩
  have ID := KI.later (Below.refl _ _).drew
  clear KI hk2
  generalize ((w.alloc (.cells #[.int .i64 a, .int .i64 b] 23)).alloc (.cells #[.int .i64 0, .int .i64 0] 23)) = W at *
  refine wp_region_held_drew (S := fun w' => w'.cell? ⟨kb, 0, none⟩ = some (.int .i64 k) ∧ w'.cell? ⟨w.heap.size, 0, none⟩ = some (.int .i64 a) ∧ w'.cell? ⟨w.heap.size, 1, none⟩ = some (.int .i64 b) ∧ w'.cell? ⟨w.heap.size + 1, 0, none⟩ = some (valAt w' ⟨w.heap.size + 1, 0, none⟩) ∧ w'.cell? ⟨w.heap.size + 1, 1, none⟩ = some (valAt w' ⟨w.heap.size + 1, 1, none⟩) ∧ w'.frozen? ⟨w.heap.size + 1, 0, none⟩ = false ∧ w'.frozen? ⟨w.heap.size + 1, 1, none⟩ = false ∧ w.heap.size + 1 < w'.heap.size ∧ Keeps (w.heap.size) [(kb, 0, .int .i64 k), (w.heap.size, 0, .int .i64 a), (w.heap.size, 1, .int .i64 b)] [(w.heap.size + 1, 0), (w.heap.size + 1, 1)] w w') (by kernel_rfl) ⟨(ID).fixed (kb, 0, .int .i64 k) (by simp), (ID).fixed (w.heap.size, 0, .int .i64 a) (by simp), (ID).fixed (w.heap.size, 1, .int .i64 b) (by simp), (ID).there (w.heap.size + 1, 0) (by simp), (ID).there (w.heap.size + 1, 1) (by simp), (ID).froz (w.heap.size + 1, 0) (by simp), (ID).froz (w.heap.size + 1, 1) (by simp), (ID).lt (w.heap.size + 1, 0) (by simp), ID⟩ (fun hHeld => ?_)
  refine wpAnyH_take (i := 0) (v := ?_) rfl (by kernel_rfl) (by kernel_rfl) (by kernel_rfl) (fun _ _ _ h => h) (Or.inl ⟨by rfl, ?_⟩) (by assumption) ?_
  rotate_left
  focus (intro w' hSw; (try dsimp only at hSw); go_simp; try with_reducible rfl)
  try simp only [Act.put, List.getElem_toArray, List.getElem_cons_succ, List.getElem_cons_zero, List.setIfInBounds_toArray, List.set_cons_zero, List.set_cons_succ]
  refine wpAnyH_take (i := 1) (v := ?_) rfl (by kernel_rfl) (by kernel_rfl) (by kernel_rfl) (fun _ _ _ h => h) (Or.inl ⟨by rfl, ?_⟩) (by assumption) ?_
  rotate_left
  focus (intro w' hSw; (try dsimp only at hSw); go_simp; try with_reducible rfl)
  try simp only [Act.put, List.getElem_toArray, List.getElem_cons_succ, List.getElem_cons_zero, List.setIfInBounds_toArray, List.set_cons_zero, List.set_cons_succ]
  refine wpAnyH_take (i := 3) (v := ?_) rfl (by kernel_rfl) (by kernel_rfl) (by kernel_rfl) (fun _ _ _ h => h) (Or.inl ⟨by rfl, ?_⟩) (by assumption) ?_
  rotate_left
  focus (intro w' hSw; (try dsimp only at hSw); go_simp; try with_reducible rfl)
  try simp only [Act.put, List.getElem_toArray, List.getElem_cons_succ, List.getElem_cons_zero, List.setIfInBounds_toArray, List.set_cons_zero, List.set_cons_succ]
  refine wpAnyH_take (i := 4) (v := ?_) rfl (by kernel_rfl) (by kernel_rfl) (by kernel_rfl) (fun _ _ _ h => h) (Or.inl ⟨by rfl, ?_⟩) (by assumption) ?_
  rotate_left
  focus (intro w' hSw; (try dsimp only at hSw); go_simp; try with_reducible rfl)
  try simp only [Act.put, List.getElem_toArray, List.getElem_cons_succ, List.getElem_cons_zero, List.setIfInBounds_toArray, List.set_cons_zero, List.set_cons_succ]
  refine wpAnyH_take (i := 8) (v := ?_) rfl (by kernel_rfl) (by kernel_rfl) (by kernel_rfl) (fun _ _ _ h => h) (Or.inl ⟨by rfl, ?_⟩) (by assumption) ?_
  rotate_left
  focus (intro w' hSw; (try dsimp only at hSw); go_simp; try with_reducible rfl)
  try simp only [Act.put, List.getElem_toArray, List.getElem_cons_succ, List.getElem_cons_zero, List.setIfInBounds_toArray, List.set_cons_zero, List.set_cons_succ]
  refine wpAnyH_ready (rs := [2]) (by kernel_rfl) (by simp) ?_
  refine AllReadyH.cons rfl (fun K hK => ?_) AllReadyH.nil
  go_simp
  go_at_call 52
  refine ((N1.out _).out).mono ?_
  rintro eq1 wq1 ⟨rfl, hB1⟩
  have I1 := Lib.hid ((ID).later (hB1))
  clear hB1
  go_wp2_with fail
  refine hK.out _ _ ⟨(I1.out).fixed (kb, 0, .int .i64 k) (by simp), (I1.out).fixed (w.heap.size, 0, .int .i64 a) (by simp), (I1.out).fixed (w.heap.size, 1, .int .i64 b) (by simp), (I1.out).there (w.heap.size + 1, 0) (by simp), (I1.out).there (w.heap.size + 1, 1) (by simp), (I1.out).froz (w.heap.size + 1, 0) (by simp), (I1.out).froz (w.heap.size + 1, 1) (by simp), (I1.out).lt (w.heap.size + 1, 0) (by simp), I1.out⟩ (fun hHeld => ?_)
  clear hK K
  try simp only [Act.put, List.getElem_toArray, List.getElem_cons_succ, List.getElem_cons_zero, List.setIfInBounds_toArray, List.set_cons_zero, List.set_cons_succ]
  refine wpAnyH_ready (rs := [5]) (by kernel_rfl) (by simp) ?_
  refine AllReadyH.cons rfl (fun K hK => ?_) AllReadyH.nil
  go_simp
  go_at_call 52
  refine ((N2.out _).out).mono ?_
  rintro eq2 wq2 ⟨rfl, hB2⟩
  have I2 := Lib.hid ((I1.out).later (hB2))
  clear hB2
  go_wp2_with fail
  refine hK.out _ _ ⟨(I2.out).fixed (kb, 0, .int .i64 k) (by simp), (I2.out).fixed (w.heap.size, 0, .int .i64 a) (by simp), (I2.out).fixed (w.heap.size, 1, .int .i64 b) (by simp), (I2.out).there (w.heap.size + 1, 0) (by simp), (I2.out).there (w.heap.size + 1, 1) (by simp), (I2.out).froz (w.heap.size + 1, 0) (by simp), (I2.out).froz (w.heap.size + 1, 1) (by simp), (I2.out).lt (w.heap.size + 1, 0) (by simp), I2.out⟩ (fun hHeld => ?_)
  clear hK K
  try simp only [Act.put, List.getElem_toArray, List.getElem_cons_succ, List.getElem_cons_zero, List.setIfInBounds_toArray, List.set_cons_zero, List.set_cons_succ]
  refine wpAnyH_ready (rs := [6]) (by kernel_rfl) (by simp) ?_
  refine AllReadyH.cons rfl (fun K hK => ?_) AllReadyH.nil
  go_simp
  refine hK.out _ _ ⟨(((I2.out).later ((Below.refl _ _).alloc (Nat.le_refl _) _))).fixed (kb, 0, .int .i64 k) (by simp), (((I2.out).later ((Below.refl _ _).alloc (Nat.le_refl _) _))).fixed (w.heap.size, 0, .int .i64 a) (by simp), (((I2.out).later ((Below.refl _ _).alloc (Nat.le_refl _) _))).fixed (w.heap.size, 1, .int .i64 b) (by simp), (((I2.out).later ((Below.refl _ _).alloc (Nat.le_refl _) _))).there (w.heap.size + 1, 0) (by simp), (((I2.out).later ((Below.refl _ _).alloc (Nat.le_refl _) _))).there (w.heap.size + 1, 1) (by simp), (((I2.out).later ((Below.refl _ _).alloc (Nat.le_refl _) _))).froz (w.heap.size + 1, 0) (by simp), (((I2.out).later ((Below.refl _ _).alloc (Nat.le_refl _) _))).froz (w.heap.size + 1, 1) (by simp), (((I2.out).later ((Below.refl _ _).alloc (Nat.le_refl _) _))).lt (w.heap.size + 1, 0) (by simp), ((I2.out).later ((Below.refl _ _).alloc (Nat.le_refl _) _))⟩ (fun hHeld => ?_)
  clear hK K
  try simp only [Act.put, List.getElem_toArray, List.getElem_cons_succ, List.getElem_cons_zero, List.setIfInBounds_toArray, List.set_cons_zero, List.set_cons_succ]
  refine wpAnyH_ready (rs := [7]) (by kernel_rfl) (by simp) ?_
  refine AllReadyH.cons rfl (fun K hK => ?_) AllReadyH.nil
  go_simp
  go_at_call 42
  refine (A.out _ _ _ (by simp) (by omega) (by go_simp) (by go_simp) (by go_simp) (by go_simp)).mono ?_
  rintro eq4 wq4 ⟨rfl, hB4⟩
  have I4 := Lib.hid ((((I2.out).later ((Below.refl _ _).alloc (Nat.le_refl _) _))).later (hB4))
  clear hB4
  go_wp2_with fail
  refine hK.out _ _ ⟨(I4.out).fixed (kb, 0, .int .i64 k) (by simp), (I4.out).fixed (w.heap.size, 0, .int .i64 a) (by simp), (I4.out).fixed (w.heap.size, 1, .int .i64 b) (by simp), (I4.out).there (w.heap.size + 1, 0) (by simp), (I4.out).there (w.heap.size + 1, 1) (by simp), (I4.out).froz (w.heap.size + 1, 0) (by simp), (I4.out).froz (w.heap.size + 1, 1) (by simp), (I4.out).lt (w.heap.size + 1, 0) (by simp), I4.out⟩ (fun hHeld => ?_)
  clear hK K
  try simp only [Act.put, List.getElem_toArray, List.getElem_cons_succ, List.getElem_cons_zero, List.setIfInBounds_toArray, List.set_cons_zero, List.set_cons_succ]
  refine wpAnyH_ready (rs := [9]) (by kernel_rfl) (by simp) ?_
  refine AllReadyH.cons rfl (fun K hK => ?_) AllReadyH.nil
  go_simp
  go_at_call 44
  refine ((T.out _).out).mono ?_
  rintro eq5 wq5 ⟨rfl, hB5⟩
  have I5 := Lib.hid ((I4.out).later (hB5))
  clear hB5
  go_wp2_with fail
  refine hK.out _ _ ⟨(I5.out).fixed (kb, 0, .int .i64 k) (by simp), (I5.out).fixed (w.heap.size, 0, .int .i64 a) (by simp), (I5.out).fixed (w.heap.size, 1, .int .i64 b) (by simp), (I5.out).there (w.heap.size + 1, 0) (by simp), (I5.out).there (w.heap.size + 1, 1) (by simp), (I5.out).froz (w.heap.size + 1, 0) (by simp), (I5.out).froz (w.heap.size + 1, 1) (by simp), (I5.out).lt (w.heap.size + 1, 0) (by simp), I5.out⟩ (fun hHeld => ?_)
  clear hK K
  try simp only [Act.put, List.getElem_toArray, List.getElem_cons_succ, List.getElem_cons_zero, List.setIfInBounds_toArray, List.set_cons_zero, List.set_cons_succ]
  refine wpAnyH_ready (rs := [10]) (by kernel_rfl) (by simp) ?_
  refine AllReadyH.cons rfl (fun K hK => ?_) AllReadyH.nil
  go_simp
  have I6 := Lib.hid (Keeps.set (Keeps.set (I5.out) (w.heap.size + 1) 0 (.int .i64 x) (by simp) (by omega) (by simp; try omega)) (w.heap.size + 1) 1 (.int .i64 y) (by simp) (by omega) (by simp; try omega))
  refine hK.out _ _ ⟨(I6.out).fixed (kb, 0, .int .i64 k) (by simp), (I6.out).fixed (w.heap.size, 0, .int .i64 a) (by simp), (I6.out).fixed (w.heap.size, 1, .int .i64 b) (by simp), (I6.out).there (w.heap.size + 1, 0) (by simp), (I6.out).there (w.heap.size + 1, 1) (by simp), (I6.out).froz (w.heap.size + 1, 0) (by simp), (I6.out).froz (w.heap.size + 1, 1) (by simp), (I6.out).lt (w.heap.size + 1, 0) (by simp), I6.out⟩ (fun hHeld => ?_)
  clear hK K
  try simp only [Act.put, List.getElem_toArray, List.getElem_cons_succ, List.getElem_cons_zero, List.setIfInBounds_toArray, List.set_cons_zero, List.set_cons_succ]
  refine wpAnyH_done (by kernel_rfl) ?_ _
  have e0 : wq5.cell? ⟨w.heap.size + 1, 0, none⟩ = some (valAt wq5 ⟨w.heap.size + 1, 0, none⟩) := (I5.out).there (w.heap.size + 1, 0) (by simp)
  have e1 : wq5.cell? ⟨w.heap.size + 1, 1, none⟩ = some (valAt wq5 ⟨w.heap.size + 1, 1, none⟩) := (I5.out).there (w.heap.size + 1, 1) (by simp)
  have bl := (I6.out).bl
  go_wp2
  refine bodyPost_ret (v := .agg #[.int .i64 x, .int .i64 y]) (by simp [results, Try.results51, go_sem, e0, e1]) rfl ⟨rfl, bl⟩

set_option maxRecDepth 100000 in
set_option maxHeartbeats 4000000 in
theorem pturned (a b l h : Int) (ab : Nat) (w : World) (hab : ab < w.heap.size) (h0 : w.cell? ⟨ab, 0, none⟩ = some (.int .i64 l)) (h1 : w.cell? ⟨ab, 1, none⟩ = some (.int .i64 h)) (b0 : -9223372036854775808 ≤ l + h) (b1 : l + h ≤ 9223372036854775807) (b2 : -9223372036854775808 ≤ l + h - b) (b3 : l + h - b ≤ 9223372036854775807) (b4 : -9223372036854775808 ≤ l + h - a) (b5 : l + h - a ≤ 9223372036854775807) :
    Calls Try.prog 50 #[.agg #[.int .i64 a, .int .i64 b], .pointer (some ⟨ab, 0, none⟩)] w fun e w' => e = .returned (.agg #[.int .i64 (l + h - b), .int .i64 (l + h - a)]) ∧ Below w.heap.size w w' := by
  have k0 : ∀ o1 o2, ((w.alloc o1).alloc o2).cell? ⟨ab, 0, none⟩ = some (.int .i64 l) := by
    intro o1 o2
    rw [(((Below.refl w.heap.size w).alloc (Nat.le_refl _) o1).alloc (by simp) o2).cell (p := ⟨ab, 0, none⟩) hab]
    exact h0
  have k1 : ∀ o1 o2, ((w.alloc o1).alloc o2).cell? ⟨ab, 1, none⟩ = some (.int .i64 h) := by
    intro o1 o2
    rw [(((Below.refl w.heap.size w).alloc (Nat.le_refl _) o1).alloc (by simp) o2).cell (p := ⟨ab, 1, none⟩) hab]
    exact h1
  clear h0 h1
  go_enter Try.func50, Try.ntmps50
  go_wp2
  refine bodyPost_ret (v := .agg #[.int .i64 (l + h - b), .int .i64 (l + h - a)]) (by simp [results, Try.results50, go_sem]) rfl ⟨rfl, ?_⟩
  exact ((Below.refl _ _).alloc (Nat.le_refl _) _).alloc (by simp) _

end Go.Proofs.Ytomjcpgjlhencaa
