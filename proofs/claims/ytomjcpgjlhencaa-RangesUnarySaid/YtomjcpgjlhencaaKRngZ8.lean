/- The closures of arithmetic of layer 4 for quotients and remainders. -/
import Derived.Test.YtomjcpgjlhencaaKRngZ7
set_option linter.unusedSimpArgs false
set_option linter.unusedVariables false
namespace Go.Proofs.Ytomjcpgjlhencaa
open Go.RowKit RangesMath
attribute [local go_sem] World.setCell_self
attribute [local go_sem ↓] Go.wp_at_zero Go.wp_at_succ

/-- divisible, and calculated over what it has made. -/
def DivCalc (k : Int) (f : Nat) (x y : Int) (s : Bool) (w : World) (e : Ending) (w' : World) : Prop := ∃ v, e = .returned v ∧ Below w.heap.size w w' ∧
  Calls Try.prog 90 #[.int .i64 k, .func (.func f) #[] #[], v] w' fun e2 w2 => e2 = .returned (.agg #[.int .i64 x, .int .i64 y, .bool s, .bool false, .bool false]) ∧ Below w'.heap.size w' w2
/-- A function of two ranges that returns an effect. -/
def EffFn (f : Nat) (args : Array Value) (x y : Int) (s t u : Bool) : Prop := ∀ w, Hid (Calls Try.prog f args w fun e w' => e = .returned (.agg #[.int .i64 x, .int .i64 y, .bool s, .bool t, .bool u]) ∧ Below w.heap.size w w')

set_option maxRecDepth 100000 in
set_option maxHeartbeats 4000000 in
theorem parith_2 (k a b c d x y : Int) (s t u : Bool) (kb : Nat) (w : World) (hkb : kb < w.heap.size) (hk : w.cell? ⟨kb, 0, none⟩ = some (.int .i64 k)) (D : ∀ w, Hid (Calls Try.prog 95 #[.agg #[.int .i64 a, .int .i64 b], .agg #[.int .i64 c, .int .i64 d]] w (DivCalc k 94 x y s w)))
    (P : EffFn 93 #[.agg #[.int .i64 a, .int .i64 b], .agg #[.int .i64 c, .int .i64 d], .agg #[.int .i64 x, .int .i64 y, .bool s, .bool false, .bool false]] x y s t u) :
    Calls Try.prog 92 #[.agg #[.int .i64 a, .int .i64 b], .agg #[.int .i64 c, .int .i64 d], .pointer (some ⟨kb, 0, none⟩)] w fun e w' => e = .returned (EffV x y s t u) ∧ Below w.heap.size w w' := by
  have hk3 : ∀ o1 o2 o3, (((w.alloc o1).alloc o2).alloc o3).cell? ⟨kb, 0, none⟩ = some (.int .i64 k) := by
    intro o1 o2 o3
    rw [((((Below.refl w.heap.size w).alloc (Nat.le_refl _) o1).alloc (by simp) o2).alloc (by simp; omega) o3).cell (p := ⟨kb, 0, none⟩) hkb]
    exact hk
  clear hk
  have P := Lib.hid P
  go_enter Try.func92, Try.ntmps92
  go_wp2_with fail
  have KI : Keeps (w.heap.size) [(kb, 0, .int .i64 k), (w.heap.size, 0, .int .i64 a), (w.heap.size, 1, .int .i64 b), (w.heap.size + 1, 0, .int .i64 c), (w.heap.size + 1, 1, .int .i64 d)] [(w.heap.size + 1 + 1, 0), (w.heap.size + 1 + 1, 1), (w.heap.size + 1 + 1, 2), (w.heap.size + 1 + 1, 3), (w.heap.size + 1 + 1, 4)] w (((w.alloc (.cells #[.int .i64 a, .int .i64 b] 23)).alloc (.cells #[.int .i64 c, .int .i64 d] 23)).alloc (.cells #[.int .i64 0, .int .i64 0, .bool false, .bool false, .bool false] 37)) := by
    refine ⟨?_, ?_, ?_, ?_, by simp; try omega, (((Below.refl _ _).alloc (Nat.le_refl _) _).alloc (by simp) _).alloc (by simp; omega) _⟩
    · simp only [List.forall_mem_cons, List.not_mem_nil, false_imp_iff, implies_true, and_true]
      exact ⟨by go_simp, by go_simp, by go_simp, by go_simp, by go_simp⟩
    · simp only [List.forall_mem_cons, List.not_mem_nil, false_imp_iff, implies_true, and_true]
      exact ⟨valAt_some (by go_simp), valAt_some (by go_simp), valAt_some (by go_simp), valAt_some (by go_simp), valAt_some (by go_simp)⟩
    · simp only [List.forall_mem_cons, List.not_mem_nil, false_imp_iff, implies_true, and_true]
      exact ⟨by go_simp, by go_simp, by go_simp, by go_simp, by go_simp⟩
    · simp only [List.forall_mem_cons, List.not_mem_nil, false_imp_iff, implies_true, and_true]
      exact ⟨by simp; try omega, by simp; try omega, by simp; try omega, by simp; try omega, by simp; try omega⟩
  have ID := KI.later (Below.refl _ _).drew
  clear KI hk3
  generalize (((w.alloc (.cells #[.int .i64 a, .int .i64 b] 23)).alloc (.cells #[.int .i64 c, .int .i64 d] 23)).alloc (.cells #[.int .i64 0, .int .i64 0, .bool false, .bool false, .bool false] 37)) = W at *
  refine wp_region_held_drew (S := fun w' => w'.cell? ⟨kb, 0, none⟩ = some (.int .i64 k) ∧ w'.cell? ⟨w.heap.size, 0, none⟩ = some (.int .i64 a) ∧ w'.cell? ⟨w.heap.size, 1, none⟩ = some (.int .i64 b) ∧ w'.cell? ⟨w.heap.size + 1, 0, none⟩ = some (.int .i64 c) ∧ w'.cell? ⟨w.heap.size + 1, 1, none⟩ = some (.int .i64 d) ∧ w'.cell? ⟨w.heap.size + 1 + 1, 0, none⟩ = some (valAt w' ⟨w.heap.size + 1 + 1, 0, none⟩) ∧ w'.cell? ⟨w.heap.size + 1 + 1, 1, none⟩ = some (valAt w' ⟨w.heap.size + 1 + 1, 1, none⟩) ∧ w'.cell? ⟨w.heap.size + 1 + 1, 2, none⟩ = some (valAt w' ⟨w.heap.size + 1 + 1, 2, none⟩) ∧ w'.cell? ⟨w.heap.size + 1 + 1, 3, none⟩ = some (valAt w' ⟨w.heap.size + 1 + 1, 3, none⟩) ∧ w'.cell? ⟨w.heap.size + 1 + 1, 4, none⟩ = some (valAt w' ⟨w.heap.size + 1 + 1, 4, none⟩) ∧ w'.frozen? ⟨w.heap.size + 1 + 1, 0, none⟩ = false ∧ w'.frozen? ⟨w.heap.size + 1 + 1, 1, none⟩ = false ∧ w'.frozen? ⟨w.heap.size + 1 + 1, 2, none⟩ = false ∧ w'.frozen? ⟨w.heap.size + 1 + 1, 3, none⟩ = false ∧ w'.frozen? ⟨w.heap.size + 1 + 1, 4, none⟩ = false ∧ w.heap.size + 1 + 1 < w'.heap.size ∧ Keeps (w.heap.size) [(kb, 0, .int .i64 k), (w.heap.size, 0, .int .i64 a), (w.heap.size, 1, .int .i64 b), (w.heap.size + 1, 0, .int .i64 c), (w.heap.size + 1, 1, .int .i64 d)] [(w.heap.size + 1 + 1, 0), (w.heap.size + 1 + 1, 1), (w.heap.size + 1 + 1, 2), (w.heap.size + 1 + 1, 3), (w.heap.size + 1 + 1, 4)] w w') (by kernel_rfl) ⟨(ID).fixed (kb, 0, .int .i64 k) (by simp), (ID).fixed (w.heap.size, 0, .int .i64 a) (by simp), (ID).fixed (w.heap.size, 1, .int .i64 b) (by simp), (ID).fixed (w.heap.size + 1, 0, .int .i64 c) (by simp), (ID).fixed (w.heap.size + 1, 1, .int .i64 d) (by simp), (ID).there (w.heap.size + 1 + 1, 0) (by simp), (ID).there (w.heap.size + 1 + 1, 1) (by simp), (ID).there (w.heap.size + 1 + 1, 2) (by simp), (ID).there (w.heap.size + 1 + 1, 3) (by simp), (ID).there (w.heap.size + 1 + 1, 4) (by simp), (ID).froz (w.heap.size + 1 + 1, 0) (by simp), (ID).froz (w.heap.size + 1 + 1, 1) (by simp), (ID).froz (w.heap.size + 1 + 1, 2) (by simp), (ID).froz (w.heap.size + 1 + 1, 3) (by simp), (ID).froz (w.heap.size + 1 + 1, 4) (by simp), (ID).lt (w.heap.size + 1 + 1, 0) (by simp), ID⟩ (fun hHeld => ?_)
  refine wpAnyH_take (i := 0) (v := ?_) rfl (by kernel_rfl) (by kernel_rfl) (by kernel_rfl) (fun _ _ _ h => h) (Or.inl ⟨by rfl, ?_⟩) (by assumption) ?_
  rotate_left
  focus (intro w' hSw; (try dsimp only at hSw); go_simp; try with_reducible rfl)
  try simp only [Act.put, List.getElem_toArray, List.getElem_cons_succ, List.getElem_cons_zero, List.setIfInBounds_toArray, List.set_cons_zero, List.set_cons_succ]
  refine wpAnyH_take (i := 1) (v := ?_) rfl (by kernel_rfl) (by kernel_rfl) (by kernel_rfl) (fun _ _ _ h => h) (Or.inl ⟨by rfl, ?_⟩) (by assumption) ?_
  rotate_left
  focus (intro w' hSw; (try dsimp only at hSw); go_simp; try with_reducible rfl)
  try simp only [Act.put, List.getElem_toArray, List.getElem_cons_succ, List.getElem_cons_zero, List.setIfInBounds_toArray, List.set_cons_zero, List.set_cons_succ]
  refine wpAnyH_take (i := 2) (v := ?_) rfl (by kernel_rfl) (by kernel_rfl) (by kernel_rfl) (fun _ _ _ h => h) (Or.inl ⟨by rfl, ?_⟩) (by assumption) ?_
  rotate_left
  focus (intro w' hSw; (try dsimp only at hSw); go_simp; try with_reducible rfl)
  try simp only [Act.put, List.getElem_toArray, List.getElem_cons_succ, List.getElem_cons_zero, List.setIfInBounds_toArray, List.set_cons_zero, List.set_cons_succ]
  refine wpAnyH_take (i := 3) (v := ?_) rfl (by kernel_rfl) (by kernel_rfl) (by kernel_rfl) (fun _ _ _ h => h) (Or.inl ⟨by rfl, ?_⟩) (by assumption) ?_
  rotate_left
  focus (intro w' hSw; (try dsimp only at hSw); go_simp; try with_reducible rfl)
  try simp only [Act.put, List.getElem_toArray, List.getElem_cons_succ, List.getElem_cons_zero, List.setIfInBounds_toArray, List.set_cons_zero, List.set_cons_succ]
  refine wpAnyH_take (i := 4) (v := ?_) rfl (by kernel_rfl) (by kernel_rfl) (by kernel_rfl) (fun _ _ _ h => h) (Or.inl ⟨by rfl, ?_⟩) (by assumption) ?_
  rotate_left
  focus (intro w' hSw; (try dsimp only at hSw); go_simp; try with_reducible rfl)
  try simp only [Act.put, List.getElem_toArray, List.getElem_cons_succ, List.getElem_cons_zero, List.setIfInBounds_toArray, List.set_cons_zero, List.set_cons_succ]
  refine wpAnyH_ready (rs := [5]) (by kernel_rfl) (by simp) ?_
  refine AllReadyH.cons rfl (fun K hK => ?_) AllReadyH.nil
  go_simp
  go_at_call 95
  refine (D _).out.mono ?_
  rintro eq1 wq1 ⟨v, rfl, hB1, hC⟩
  have HC := Lib.hid hC
  have I1 := Lib.hid (ID.later hB1)
  clear hB1 hC
  go_wp2_with fail
  refine hK.out _ _ ⟨(I1.out).fixed (kb, 0, .int .i64 k) (by simp), (I1.out).fixed (w.heap.size, 0, .int .i64 a) (by simp), (I1.out).fixed (w.heap.size, 1, .int .i64 b) (by simp), (I1.out).fixed (w.heap.size + 1, 0, .int .i64 c) (by simp), (I1.out).fixed (w.heap.size + 1, 1, .int .i64 d) (by simp), (I1.out).there (w.heap.size + 1 + 1, 0) (by simp), (I1.out).there (w.heap.size + 1 + 1, 1) (by simp), (I1.out).there (w.heap.size + 1 + 1, 2) (by simp), (I1.out).there (w.heap.size + 1 + 1, 3) (by simp), (I1.out).there (w.heap.size + 1 + 1, 4) (by simp), (I1.out).froz (w.heap.size + 1 + 1, 0) (by simp), (I1.out).froz (w.heap.size + 1 + 1, 1) (by simp), (I1.out).froz (w.heap.size + 1 + 1, 2) (by simp), (I1.out).froz (w.heap.size + 1 + 1, 3) (by simp), (I1.out).froz (w.heap.size + 1 + 1, 4) (by simp), (I1.out).lt (w.heap.size + 1 + 1, 0) (by simp), I1.out⟩ (fun hHeld => ?_)
  clear hK K
  try simp only [Act.put, List.getElem_toArray, List.getElem_cons_succ, List.getElem_cons_zero, List.setIfInBounds_toArray, List.set_cons_zero, List.set_cons_succ]
  refine wpAnyH_ready (rs := [6]) (by kernel_rfl) (by simp) ?_
  refine AllReadyH.cons rfl (fun K hK => ?_) AllReadyH.nil
  go_simp
  go_at_call 90
  refine HC.out.mono ?_
  rintro eq2 wq2 ⟨rfl, hB2⟩
  have I2 := Lib.hid (I1.out.later hB2)
  clear hB2 HC
  go_wp2_with fail
  refine hK.out _ _ ⟨(I2.out).fixed (kb, 0, .int .i64 k) (by simp), (I2.out).fixed (w.heap.size, 0, .int .i64 a) (by simp), (I2.out).fixed (w.heap.size, 1, .int .i64 b) (by simp), (I2.out).fixed (w.heap.size + 1, 0, .int .i64 c) (by simp), (I2.out).fixed (w.heap.size + 1, 1, .int .i64 d) (by simp), (I2.out).there (w.heap.size + 1 + 1, 0) (by simp), (I2.out).there (w.heap.size + 1 + 1, 1) (by simp), (I2.out).there (w.heap.size + 1 + 1, 2) (by simp), (I2.out).there (w.heap.size + 1 + 1, 3) (by simp), (I2.out).there (w.heap.size + 1 + 1, 4) (by simp), (I2.out).froz (w.heap.size + 1 + 1, 0) (by simp), (I2.out).froz (w.heap.size + 1 + 1, 1) (by simp), (I2.out).froz (w.heap.size + 1 + 1, 2) (by simp), (I2.out).froz (w.heap.size + 1 + 1, 3) (by simp), (I2.out).froz (w.heap.size + 1 + 1, 4) (by simp), (I2.out).lt (w.heap.size + 1 + 1, 0) (by simp), I2.out⟩ (fun hHeld => ?_)
  clear hK K
  try simp only [Act.put, List.getElem_toArray, List.getElem_cons_succ, List.getElem_cons_zero, List.setIfInBounds_toArray, List.set_cons_zero, List.set_cons_succ]
  refine wpAnyH_ready (rs := [7]) (by kernel_rfl) (by simp) ?_
  refine AllReadyH.cons rfl (fun K hK => ?_) AllReadyH.nil
  go_simp
  go_at_call 93
  refine (P.out _).out.mono ?_
  rintro eq3 wq3 ⟨rfl, hB3⟩
  have I3 := Lib.hid (I2.out.later hB3)
  clear hB3
  go_wp2_with fail
  refine hK.out _ _ ⟨(I3.out).fixed (kb, 0, .int .i64 k) (by simp), (I3.out).fixed (w.heap.size, 0, .int .i64 a) (by simp), (I3.out).fixed (w.heap.size, 1, .int .i64 b) (by simp), (I3.out).fixed (w.heap.size + 1, 0, .int .i64 c) (by simp), (I3.out).fixed (w.heap.size + 1, 1, .int .i64 d) (by simp), (I3.out).there (w.heap.size + 1 + 1, 0) (by simp), (I3.out).there (w.heap.size + 1 + 1, 1) (by simp), (I3.out).there (w.heap.size + 1 + 1, 2) (by simp), (I3.out).there (w.heap.size + 1 + 1, 3) (by simp), (I3.out).there (w.heap.size + 1 + 1, 4) (by simp), (I3.out).froz (w.heap.size + 1 + 1, 0) (by simp), (I3.out).froz (w.heap.size + 1 + 1, 1) (by simp), (I3.out).froz (w.heap.size + 1 + 1, 2) (by simp), (I3.out).froz (w.heap.size + 1 + 1, 3) (by simp), (I3.out).froz (w.heap.size + 1 + 1, 4) (by simp), (I3.out).lt (w.heap.size + 1 + 1, 0) (by simp), I3.out⟩ (fun hHeld => ?_)
  clear hK K
  try simp only [Act.put, List.getElem_toArray, List.getElem_cons_succ, List.getElem_cons_zero, List.setIfInBounds_toArray, List.set_cons_zero, List.set_cons_succ]
  refine wpAnyH_ready (rs := [8]) (by kernel_rfl) (by simp) ?_
  refine AllReadyH.cons rfl (fun K hK => ?_) AllReadyH.nil
  go_simp
  have I13 := Lib.hid (Keeps.set (Keeps.set (Keeps.set (Keeps.set (Keeps.set (I3.out) (w.heap.size + 1 + 1) 0 (.int .i64 x) (by simp) (by omega) (by simp; try omega)) (w.heap.size + 1 + 1) 1 (.int .i64 y) (by simp) (by omega) (by simp; try omega)) (w.heap.size + 1 + 1) 2 (.bool s) (by simp) (by omega) (by simp; try omega)) (w.heap.size + 1 + 1) 3 (.bool t) (by simp) (by omega) (by simp; try omega)) (w.heap.size + 1 + 1) 4 (.bool u) (by simp) (by omega) (by simp; try omega))
  refine hK.out _ _ ⟨(I13.out).fixed (kb, 0, .int .i64 k) (by simp), (I13.out).fixed (w.heap.size, 0, .int .i64 a) (by simp), (I13.out).fixed (w.heap.size, 1, .int .i64 b) (by simp), (I13.out).fixed (w.heap.size + 1, 0, .int .i64 c) (by simp), (I13.out).fixed (w.heap.size + 1, 1, .int .i64 d) (by simp), (I13.out).there (w.heap.size + 1 + 1, 0) (by simp), (I13.out).there (w.heap.size + 1 + 1, 1) (by simp), (I13.out).there (w.heap.size + 1 + 1, 2) (by simp), (I13.out).there (w.heap.size + 1 + 1, 3) (by simp), (I13.out).there (w.heap.size + 1 + 1, 4) (by simp), (I13.out).froz (w.heap.size + 1 + 1, 0) (by simp), (I13.out).froz (w.heap.size + 1 + 1, 1) (by simp), (I13.out).froz (w.heap.size + 1 + 1, 2) (by simp), (I13.out).froz (w.heap.size + 1 + 1, 3) (by simp), (I13.out).froz (w.heap.size + 1 + 1, 4) (by simp), (I13.out).lt (w.heap.size + 1 + 1, 0) (by simp), I13.out⟩ (fun hHeld => ?_)
  clear hK K
  try simp only [Act.put, List.getElem_toArray, List.getElem_cons_succ, List.getElem_cons_zero, List.setIfInBounds_toArray, List.set_cons_zero, List.set_cons_succ]
  refine wpAnyH_done (by kernel_rfl) ?_ _
  have e0 : wq3.cell? ⟨w.heap.size + 1 + 1, 0, none⟩ = some (valAt wq3 ⟨w.heap.size + 1 + 1, 0, none⟩) := (I3.out).there (w.heap.size + 1 + 1, 0) (by simp)
  have e1 : wq3.cell? ⟨w.heap.size + 1 + 1, 1, none⟩ = some (valAt wq3 ⟨w.heap.size + 1 + 1, 1, none⟩) := (I3.out).there (w.heap.size + 1 + 1, 1) (by simp)
  have e2 : wq3.cell? ⟨w.heap.size + 1 + 1, 2, none⟩ = some (valAt wq3 ⟨w.heap.size + 1 + 1, 2, none⟩) := (I3.out).there (w.heap.size + 1 + 1, 2) (by simp)
  have e3 : wq3.cell? ⟨w.heap.size + 1 + 1, 3, none⟩ = some (valAt wq3 ⟨w.heap.size + 1 + 1, 3, none⟩) := (I3.out).there (w.heap.size + 1 + 1, 3) (by simp)
  have e4 : wq3.cell? ⟨w.heap.size + 1 + 1, 4, none⟩ = some (valAt wq3 ⟨w.heap.size + 1 + 1, 4, none⟩) := (I3.out).there (w.heap.size + 1 + 1, 4) (by simp)
  have bl := (I13.out).bl
  go_wp2
  refine bodyPost_ret (v := EffV x y s t u) (by simp [results, Try.results92, go_sem, EffV, e0, e1, e2, e3, e4]) rfl ⟨rfl, bl⟩

set_option maxRecDepth 100000 in
set_option maxHeartbeats 4000000 in
theorem parith_3 (a b c d x y : Int) (s t u : Bool) (w : World) (D : EffFn 97 #[.agg #[.int .i64 a, .int .i64 b], .agg #[.int .i64 c, .int .i64 d]] x y s false false)
    (P : EffFn 93 #[.agg #[.int .i64 a, .int .i64 b], .agg #[.int .i64 c, .int .i64 d], .agg #[.int .i64 x, .int .i64 y, .bool s, .bool false, .bool false]] x y s t u) :
    Calls Try.prog 96 #[.agg #[.int .i64 a, .int .i64 b], .agg #[.int .i64 c, .int .i64 d]] w fun e w' => e = .returned (EffV x y s t u) ∧ Below w.heap.size w w' := by
  have P := Lib.hid P
  have D := Lib.hid D
  go_enter Try.func96, Try.ntmps96
  go_wp2_with fail
  have KI : Keeps (w.heap.size) [(w.heap.size, 0, .int .i64 a), (w.heap.size, 1, .int .i64 b), (w.heap.size + 1, 0, .int .i64 c), (w.heap.size + 1, 1, .int .i64 d)] [(w.heap.size + 1 + 1, 0), (w.heap.size + 1 + 1, 1), (w.heap.size + 1 + 1, 2), (w.heap.size + 1 + 1, 3), (w.heap.size + 1 + 1, 4)] w (((w.alloc (.cells #[.int .i64 a, .int .i64 b] 23)).alloc (.cells #[.int .i64 c, .int .i64 d] 23)).alloc (.cells #[.int .i64 0, .int .i64 0, .bool false, .bool false, .bool false] 37)) := by
    refine ⟨?_, ?_, ?_, ?_, by simp; try omega, (((Below.refl _ _).alloc (Nat.le_refl _) _).alloc (by simp) _).alloc (by simp; omega) _⟩
    · simp only [List.forall_mem_cons, List.not_mem_nil, false_imp_iff, implies_true, and_true]
      exact ⟨by go_simp, by go_simp, by go_simp, by go_simp⟩
    · simp only [List.forall_mem_cons, List.not_mem_nil, false_imp_iff, implies_true, and_true]
      exact ⟨valAt_some (by go_simp), valAt_some (by go_simp), valAt_some (by go_simp), valAt_some (by go_simp), valAt_some (by go_simp)⟩
    · simp only [List.forall_mem_cons, List.not_mem_nil, false_imp_iff, implies_true, and_true]
      exact ⟨by go_simp, by go_simp, by go_simp, by go_simp, by go_simp⟩
    · simp only [List.forall_mem_cons, List.not_mem_nil, false_imp_iff, implies_true, and_true]
      exact ⟨by simp; try omega, by simp; try omega, by simp; try omega, by simp; try omega, by simp; try omega⟩
  have ID := KI.later (Below.refl _ _).drew
  clear KI 
  generalize (((w.alloc (.cells #[.int .i64 a, .int .i64 b] 23)).alloc (.cells #[.int .i64 c, .int .i64 d] 23)).alloc (.cells #[.int .i64 0, .int .i64 0, .bool false, .bool false, .bool false] 37)) = W at *
  refine wp_region_held_drew (S := fun w' => w'.cell? ⟨w.heap.size, 0, none⟩ = some (.int .i64 a) ∧ w'.cell? ⟨w.heap.size, 1, none⟩ = some (.int .i64 b) ∧ w'.cell? ⟨w.heap.size + 1, 0, none⟩ = some (.int .i64 c) ∧ w'.cell? ⟨w.heap.size + 1, 1, none⟩ = some (.int .i64 d) ∧ w'.cell? ⟨w.heap.size + 1 + 1, 0, none⟩ = some (valAt w' ⟨w.heap.size + 1 + 1, 0, none⟩) ∧ w'.cell? ⟨w.heap.size + 1 + 1, 1, none⟩ = some (valAt w' ⟨w.heap.size + 1 + 1, 1, none⟩) ∧ w'.cell? ⟨w.heap.size + 1 + 1, 2, none⟩ = some (valAt w' ⟨w.heap.size + 1 + 1, 2, none⟩) ∧ w'.cell? ⟨w.heap.size + 1 + 1, 3, none⟩ = some (valAt w' ⟨w.heap.size + 1 + 1, 3, none⟩) ∧ w'.cell? ⟨w.heap.size + 1 + 1, 4, none⟩ = some (valAt w' ⟨w.heap.size + 1 + 1, 4, none⟩) ∧ w'.frozen? ⟨w.heap.size + 1 + 1, 0, none⟩ = false ∧ w'.frozen? ⟨w.heap.size + 1 + 1, 1, none⟩ = false ∧ w'.frozen? ⟨w.heap.size + 1 + 1, 2, none⟩ = false ∧ w'.frozen? ⟨w.heap.size + 1 + 1, 3, none⟩ = false ∧ w'.frozen? ⟨w.heap.size + 1 + 1, 4, none⟩ = false ∧ w.heap.size + 1 + 1 < w'.heap.size ∧ Keeps (w.heap.size) [(w.heap.size, 0, .int .i64 a), (w.heap.size, 1, .int .i64 b), (w.heap.size + 1, 0, .int .i64 c), (w.heap.size + 1, 1, .int .i64 d)] [(w.heap.size + 1 + 1, 0), (w.heap.size + 1 + 1, 1), (w.heap.size + 1 + 1, 2), (w.heap.size + 1 + 1, 3), (w.heap.size + 1 + 1, 4)] w w') (by kernel_rfl) ⟨(ID).fixed (w.heap.size, 0, .int .i64 a) (by simp), (ID).fixed (w.heap.size, 1, .int .i64 b) (by simp), (ID).fixed (w.heap.size + 1, 0, .int .i64 c) (by simp), (ID).fixed (w.heap.size + 1, 1, .int .i64 d) (by simp), (ID).there (w.heap.size + 1 + 1, 0) (by simp), (ID).there (w.heap.size + 1 + 1, 1) (by simp), (ID).there (w.heap.size + 1 + 1, 2) (by simp), (ID).there (w.heap.size + 1 + 1, 3) (by simp), (ID).there (w.heap.size + 1 + 1, 4) (by simp), (ID).froz (w.heap.size + 1 + 1, 0) (by simp), (ID).froz (w.heap.size + 1 + 1, 1) (by simp), (ID).froz (w.heap.size + 1 + 1, 2) (by simp), (ID).froz (w.heap.size + 1 + 1, 3) (by simp), (ID).froz (w.heap.size + 1 + 1, 4) (by simp), (ID).lt (w.heap.size + 1 + 1, 0) (by simp), ID⟩ (fun hHeld => ?_)
  refine wpAnyH_take (i := 0) (v := ?_) rfl (by kernel_rfl) (by kernel_rfl) (by kernel_rfl) (fun _ _ _ h => h) (Or.inl ⟨by rfl, ?_⟩) (by assumption) ?_
  rotate_left
  focus (intro w' hSw; (try dsimp only at hSw); go_simp; try with_reducible rfl)
  try simp only [Act.put, List.getElem_toArray, List.getElem_cons_succ, List.getElem_cons_zero, List.setIfInBounds_toArray, List.set_cons_zero, List.set_cons_succ]
  refine wpAnyH_take (i := 1) (v := ?_) rfl (by kernel_rfl) (by kernel_rfl) (by kernel_rfl) (fun _ _ _ h => h) (Or.inl ⟨by rfl, ?_⟩) (by assumption) ?_
  rotate_left
  focus (intro w' hSw; (try dsimp only at hSw); go_simp; try with_reducible rfl)
  try simp only [Act.put, List.getElem_toArray, List.getElem_cons_succ, List.getElem_cons_zero, List.setIfInBounds_toArray, List.set_cons_zero, List.set_cons_succ]
  refine wpAnyH_take (i := 2) (v := ?_) rfl (by kernel_rfl) (by kernel_rfl) (by kernel_rfl) (fun _ _ _ h => h) (Or.inl ⟨by rfl, ?_⟩) (by assumption) ?_
  rotate_left
  focus (intro w' hSw; (try dsimp only at hSw); go_simp; try with_reducible rfl)
  try simp only [Act.put, List.getElem_toArray, List.getElem_cons_succ, List.getElem_cons_zero, List.setIfInBounds_toArray, List.set_cons_zero, List.set_cons_succ]
  refine wpAnyH_take (i := 3) (v := ?_) rfl (by kernel_rfl) (by kernel_rfl) (by kernel_rfl) (fun _ _ _ h => h) (Or.inl ⟨by rfl, ?_⟩) (by assumption) ?_
  rotate_left
  focus (intro w' hSw; (try dsimp only at hSw); go_simp; try with_reducible rfl)
  try simp only [Act.put, List.getElem_toArray, List.getElem_cons_succ, List.getElem_cons_zero, List.setIfInBounds_toArray, List.set_cons_zero, List.set_cons_succ]
  refine wpAnyH_ready (rs := [4]) (by kernel_rfl) (by simp) ?_
  refine AllReadyH.cons rfl (fun K hK => ?_) AllReadyH.nil
  go_simp
  go_at_call 97
  refine (D.out _).out.mono ?_
  rintro eq1 wq1 ⟨rfl, hB1⟩
  have I1 := Lib.hid (ID.later hB1)
  clear hB1
  go_wp2_with fail
  refine hK.out _ _ ⟨(I1.out).fixed (w.heap.size, 0, .int .i64 a) (by simp), (I1.out).fixed (w.heap.size, 1, .int .i64 b) (by simp), (I1.out).fixed (w.heap.size + 1, 0, .int .i64 c) (by simp), (I1.out).fixed (w.heap.size + 1, 1, .int .i64 d) (by simp), (I1.out).there (w.heap.size + 1 + 1, 0) (by simp), (I1.out).there (w.heap.size + 1 + 1, 1) (by simp), (I1.out).there (w.heap.size + 1 + 1, 2) (by simp), (I1.out).there (w.heap.size + 1 + 1, 3) (by simp), (I1.out).there (w.heap.size + 1 + 1, 4) (by simp), (I1.out).froz (w.heap.size + 1 + 1, 0) (by simp), (I1.out).froz (w.heap.size + 1 + 1, 1) (by simp), (I1.out).froz (w.heap.size + 1 + 1, 2) (by simp), (I1.out).froz (w.heap.size + 1 + 1, 3) (by simp), (I1.out).froz (w.heap.size + 1 + 1, 4) (by simp), (I1.out).lt (w.heap.size + 1 + 1, 0) (by simp), I1.out⟩ (fun hHeld => ?_)
  clear hK K
  try simp only [Act.put, List.getElem_toArray, List.getElem_cons_succ, List.getElem_cons_zero, List.setIfInBounds_toArray, List.set_cons_zero, List.set_cons_succ]
  refine wpAnyH_ready (rs := [5]) (by kernel_rfl) (by simp) ?_
  refine AllReadyH.cons rfl (fun K hK => ?_) AllReadyH.nil
  go_simp
  go_at_call 93
  refine (P.out _).out.mono ?_
  rintro eq2 wq2 ⟨rfl, hB2⟩
  have I2 := Lib.hid (I1.out.later hB2)
  clear hB2
  go_wp2_with fail
  refine hK.out _ _ ⟨(I2.out).fixed (w.heap.size, 0, .int .i64 a) (by simp), (I2.out).fixed (w.heap.size, 1, .int .i64 b) (by simp), (I2.out).fixed (w.heap.size + 1, 0, .int .i64 c) (by simp), (I2.out).fixed (w.heap.size + 1, 1, .int .i64 d) (by simp), (I2.out).there (w.heap.size + 1 + 1, 0) (by simp), (I2.out).there (w.heap.size + 1 + 1, 1) (by simp), (I2.out).there (w.heap.size + 1 + 1, 2) (by simp), (I2.out).there (w.heap.size + 1 + 1, 3) (by simp), (I2.out).there (w.heap.size + 1 + 1, 4) (by simp), (I2.out).froz (w.heap.size + 1 + 1, 0) (by simp), (I2.out).froz (w.heap.size + 1 + 1, 1) (by simp), (I2.out).froz (w.heap.size + 1 + 1, 2) (by simp), (I2.out).froz (w.heap.size + 1 + 1, 3) (by simp), (I2.out).froz (w.heap.size + 1 + 1, 4) (by simp), (I2.out).lt (w.heap.size + 1 + 1, 0) (by simp), I2.out⟩ (fun hHeld => ?_)
  clear hK K
  try simp only [Act.put, List.getElem_toArray, List.getElem_cons_succ, List.getElem_cons_zero, List.setIfInBounds_toArray, List.set_cons_zero, List.set_cons_succ]
  refine wpAnyH_ready (rs := [6]) (by kernel_rfl) (by simp) ?_
  refine AllReadyH.cons rfl (fun K hK => ?_) AllReadyH.nil
  go_simp
  have I12 := Lib.hid (Keeps.set (Keeps.set (Keeps.set (Keeps.set (Keeps.set (I2.out) (w.heap.size + 1 + 1) 0 (.int .i64 x) (by simp) (by omega) (by simp; try omega)) (w.heap.size + 1 + 1) 1 (.int .i64 y) (by simp) (by omega) (by simp; try omega)) (w.heap.size + 1 + 1) 2 (.bool s) (by simp) (by omega) (by simp; try omega)) (w.heap.size + 1 + 1) 3 (.bool t) (by simp) (by omega) (by simp; try omega)) (w.heap.size + 1 + 1) 4 (.bool u) (by simp) (by omega) (by simp; try omega))
  refine hK.out _ _ ⟨(I12.out).fixed (w.heap.size, 0, .int .i64 a) (by simp), (I12.out).fixed (w.heap.size, 1, .int .i64 b) (by simp), (I12.out).fixed (w.heap.size + 1, 0, .int .i64 c) (by simp), (I12.out).fixed (w.heap.size + 1, 1, .int .i64 d) (by simp), (I12.out).there (w.heap.size + 1 + 1, 0) (by simp), (I12.out).there (w.heap.size + 1 + 1, 1) (by simp), (I12.out).there (w.heap.size + 1 + 1, 2) (by simp), (I12.out).there (w.heap.size + 1 + 1, 3) (by simp), (I12.out).there (w.heap.size + 1 + 1, 4) (by simp), (I12.out).froz (w.heap.size + 1 + 1, 0) (by simp), (I12.out).froz (w.heap.size + 1 + 1, 1) (by simp), (I12.out).froz (w.heap.size + 1 + 1, 2) (by simp), (I12.out).froz (w.heap.size + 1 + 1, 3) (by simp), (I12.out).froz (w.heap.size + 1 + 1, 4) (by simp), (I12.out).lt (w.heap.size + 1 + 1, 0) (by simp), I12.out⟩ (fun hHeld => ?_)
  clear hK K
  try simp only [Act.put, List.getElem_toArray, List.getElem_cons_succ, List.getElem_cons_zero, List.setIfInBounds_toArray, List.set_cons_zero, List.set_cons_succ]
  refine wpAnyH_done (by kernel_rfl) ?_ _
  have e0 : wq2.cell? ⟨w.heap.size + 1 + 1, 0, none⟩ = some (valAt wq2 ⟨w.heap.size + 1 + 1, 0, none⟩) := (I2.out).there (w.heap.size + 1 + 1, 0) (by simp)
  have e1 : wq2.cell? ⟨w.heap.size + 1 + 1, 1, none⟩ = some (valAt wq2 ⟨w.heap.size + 1 + 1, 1, none⟩) := (I2.out).there (w.heap.size + 1 + 1, 1) (by simp)
  have e2 : wq2.cell? ⟨w.heap.size + 1 + 1, 2, none⟩ = some (valAt wq2 ⟨w.heap.size + 1 + 1, 2, none⟩) := (I2.out).there (w.heap.size + 1 + 1, 2) (by simp)
  have e3 : wq2.cell? ⟨w.heap.size + 1 + 1, 3, none⟩ = some (valAt wq2 ⟨w.heap.size + 1 + 1, 3, none⟩) := (I2.out).there (w.heap.size + 1 + 1, 3) (by simp)
  have e4 : wq2.cell? ⟨w.heap.size + 1 + 1, 4, none⟩ = some (valAt wq2 ⟨w.heap.size + 1 + 1, 4, none⟩) := (I2.out).there (w.heap.size + 1 + 1, 4) (by simp)
  have bl := (I12.out).bl
  go_wp2
  refine bodyPost_ret (v := EffV x y s t u) (by simp [results, Try.results96, go_sem, EffV, e0, e1, e2, e3, e4]) rfl ⟨rfl, bl⟩

end Go.Proofs.Ytomjcpgjlhencaa
