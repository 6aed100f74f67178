/- RngZG, RngZH. -/
import Derived.Test.YtomjcpgjlhencaaKGlueUToRngZF
import Derived.Test.YtomjcpgjlhencaaKLawDone3ToLawAssume
set_option linter.unusedSimpArgs false
set_option linter.unusedVariables false
/- unaries and Unary of layer 4. -/
namespace Go.Proofs.Ytomjcpgjlhencaa
open Go.RowKit RangesMath Go.MapKept
attribute [local go_sem] World.setCell_self

/-- unaries returns a map with these entries; its closures look at the kind and at the range of all its values. -/
def UnaMap (k lo hi : Int) (es : Nat → Nat → Array MapEntry) (c : Nat) (w : World) (e : Ending) (w' : World) : Prop := ∃ b ab, e = .returned (.map (some b)) ∧ w'.heap[b]? = some (.map (es w.heap.size ab) c) ∧ w'.cell? ⟨w.heap.size, 0, none⟩ = some (.int .i64 k) ∧ w.heap.size < w'.heap.size ∧ w'.cell? ⟨ab, 0, none⟩ = some (.int .i64 lo) ∧ w'.cell? ⟨ab, 1, none⟩ = some (.int .i64 hi) ∧ ab < w'.heap.size ∧ Below w.heap.size w w'
def unEs (kb ab : Nat) : Array MapEntry := #[⟨.int .i64 1, .func (.func 51) #[] #[.pointer (some ⟨kb, 0, none⟩)], 0⟩, ⟨.int .i64 3, .func (.func 50) #[] #[.pointer (some ⟨ab, 0, none⟩)], 1⟩]
def unEs3 (_kb ab : Nat) : Array MapEntry := #[⟨.int .i64 2, .func (.func 50) #[] #[.pointer (some ⟨ab, 0, none⟩)], 0⟩]

set_option maxRecDepth 100000 in
set_option maxHeartbeats 4000000 in
theorem punaries_1 (lo hi ee : Int) (w : World) (F : ∀ w, Hid (Calls Try.prog 11 #[.int .i64 1] w fun e w' => e = .returned (.tuple #[.agg #[.int .i64 lo, .int .i64 hi], .int .i64 ee]) ∧ Below w.heap.size w w')) :
    Calls Try.prog 33 #[.int .i64 1] w (UnaMap 1 lo hi unEs 2 w) := by
  have hmm := @run_makeMap Try.prog
  go_enter Try.func33, Try.ntmps33
  go_wp2_with fail
  refine (F _).out.mono ?_
  rintro e w1 ⟨rfl, hb⟩
  have z : w.heap.size < w1.heap.size := by have := hb.size; simp at this; omega
  have k0 : w1.cell? ⟨w.heap.size, 0, none⟩ = some (.int .i64 1) := cell_later hb (by go_simp)
  have k0' : ∀ o1, (w1.alloc o1).cell? ⟨w.heap.size, 0, none⟩ = some (.int .i64 1) := fun o1 => by rw [World.cell?_alloc_lt _ _ _ (World.block_lt_of_cell? _ _ k0)]; exact k0
  have bl : Below w.heap.size w w1 := ((Below.refl _ _).alloc (Nat.le_refl _) _).trans (hb.mono (by simp))
  clear hb
  have p0 : ∀ (v0 : Value), (Instr.mapUpdate 64 (.map (some (w1.heap.size + 1))) (.int .i64 1) v0).run Try.prog ((w1.alloc (.cells #[.int .i64 lo, .int .i64 hi] 23)).alloc (.map #[] 0)) = .ok () ((w1.alloc (.cells #[.int .i64 lo, .int .i64 hi] 23)).alloc (.map #[⟨.int .i64 1, v0, 0⟩] 1)) := fun v0 => run_put Try.underlying64 Try.underlying3 (by simp) rfl
  have p1 : ∀ (v0 v1 : Value), (Instr.mapUpdate 64 (.map (some (w1.heap.size + 1))) (.int .i64 3) v1).run Try.prog ((w1.alloc (.cells #[.int .i64 lo, .int .i64 hi] 23)).alloc (.map #[⟨.int .i64 1, v0, 0⟩] 1)) = .ok () ((w1.alloc (.cells #[.int .i64 lo, .int .i64 hi] 23)).alloc (.map #[⟨.int .i64 1, v0, 0⟩, ⟨.int .i64 3, v1, 1⟩] 2)) := fun v0 v1 => run_put Try.underlying64 Try.underlying3 (by simp) rfl
  go_wp2
  go_ret
  refine ⟨w1.heap.size + 1, w1.heap.size, rfl, ?_, ?_, by simp; omega, by go_simp, by go_simp, by simp; omega, (bl.alloc (by omega) _).alloc (by simp; omega) _⟩
  · have := (heap_alloc (w1.alloc (.cells #[.int .i64 lo, .int .i64 hi] 23)) (.map (unEs w.heap.size w1.heap.size) 2)).1
    simpa [unEs] using this
  · go_simp

set_option maxRecDepth 100000 in
set_option maxHeartbeats 4000000 in
theorem punaries_2 (lo hi ee : Int) (w : World) (F : ∀ w, Hid (Calls Try.prog 11 #[.int .i64 2] w fun e w' => e = .returned (.tuple #[.agg #[.int .i64 lo, .int .i64 hi], .int .i64 ee]) ∧ Below w.heap.size w w')) :
    Calls Try.prog 33 #[.int .i64 2] w (UnaMap 2 lo hi unEs 2 w) := by
  have hmm := @run_makeMap Try.prog
  go_enter Try.func33, Try.ntmps33
  go_wp2_with fail
  refine (F _).out.mono ?_
  rintro e w1 ⟨rfl, hb⟩
  have z : w.heap.size < w1.heap.size := by have := hb.size; simp at this; omega
  have k0 : w1.cell? ⟨w.heap.size, 0, none⟩ = some (.int .i64 2) := cell_later hb (by go_simp)
  have k0' : ∀ o1, (w1.alloc o1).cell? ⟨w.heap.size, 0, none⟩ = some (.int .i64 2) := fun o1 => by rw [World.cell?_alloc_lt _ _ _ (World.block_lt_of_cell? _ _ k0)]; exact k0
  have bl : Below w.heap.size w w1 := ((Below.refl _ _).alloc (Nat.le_refl _) _).trans (hb.mono (by simp))
  clear hb
  have p0 : ∀ (v0 : Value), (Instr.mapUpdate 64 (.map (some (w1.heap.size + 1))) (.int .i64 1) v0).run Try.prog ((w1.alloc (.cells #[.int .i64 lo, .int .i64 hi] 23)).alloc (.map #[] 0)) = .ok () ((w1.alloc (.cells #[.int .i64 lo, .int .i64 hi] 23)).alloc (.map #[⟨.int .i64 1, v0, 0⟩] 1)) := fun v0 => run_put Try.underlying64 Try.underlying3 (by simp) rfl
  have p1 : ∀ (v0 v1 : Value), (Instr.mapUpdate 64 (.map (some (w1.heap.size + 1))) (.int .i64 3) v1).run Try.prog ((w1.alloc (.cells #[.int .i64 lo, .int .i64 hi] 23)).alloc (.map #[⟨.int .i64 1, v0, 0⟩] 1)) = .ok () ((w1.alloc (.cells #[.int .i64 lo, .int .i64 hi] 23)).alloc (.map #[⟨.int .i64 1, v0, 0⟩, ⟨.int .i64 3, v1, 1⟩] 2)) := fun v0 v1 => run_put Try.underlying64 Try.underlying3 (by simp) rfl
  go_wp2
  go_ret
  refine ⟨w1.heap.size + 1, w1.heap.size, rfl, ?_, ?_, by simp; omega, by go_simp, by go_simp, by simp; omega, (bl.alloc (by omega) _).alloc (by simp; omega) _⟩
  · have := (heap_alloc (w1.alloc (.cells #[.int .i64 lo, .int .i64 hi] 23)) (.map (unEs w.heap.size w1.heap.size) 2)).1
    simpa [unEs] using this
  · go_simp

set_option maxRecDepth 100000 in
set_option maxHeartbeats 4000000 in
theorem punaries_3 (lo hi ee : Int) (w : World) (F : ∀ w, Hid (Calls Try.prog 11 #[.int .i64 3] w fun e w' => e = .returned (.tuple #[.agg #[.int .i64 lo, .int .i64 hi], .int .i64 ee]) ∧ Below w.heap.size w w')) :
    Calls Try.prog 33 #[.int .i64 3] w (UnaMap 3 lo hi unEs3 1 w) := by
  have hmm := @run_makeMap Try.prog
  go_enter Try.func33, Try.ntmps33
  go_wp2_with fail
  refine (F _).out.mono ?_
  rintro e w1 ⟨rfl, hb⟩
  have z : w.heap.size < w1.heap.size := by have := hb.size; simp at this; omega
  have k0 : w1.cell? ⟨w.heap.size, 0, none⟩ = some (.int .i64 3) := cell_later hb (by go_simp)
  have k0' : ∀ o1, (w1.alloc o1).cell? ⟨w.heap.size, 0, none⟩ = some (.int .i64 3) := fun o1 => by rw [World.cell?_alloc_lt _ _ _ (World.block_lt_of_cell? _ _ k0)]; exact k0
  have bl : Below w.heap.size w w1 := ((Below.refl _ _).alloc (Nat.le_refl _) _).trans (hb.mono (by simp))
  clear hb
  have p0 : ∀ (v0 : Value), (Instr.mapUpdate 64 (.map (some (w1.heap.size + 1))) (.int .i64 2) v0).run Try.prog ((w1.alloc (.cells #[.int .i64 lo, .int .i64 hi] 23)).alloc (.map #[] 0)) = .ok () ((w1.alloc (.cells #[.int .i64 lo, .int .i64 hi] 23)).alloc (.map #[⟨.int .i64 2, v0, 0⟩] 1)) := fun v0 => run_put Try.underlying64 Try.underlying3 (by simp) rfl
  go_wp2
  go_ret
  refine ⟨w1.heap.size + 1, w1.heap.size, rfl, ?_, ?_, by simp; omega, by go_simp, by go_simp, by simp; omega, (bl.alloc (by omega) _).alloc (by simp; omega) _⟩
  · have := (heap_alloc (w1.alloc (.cells #[.int .i64 lo, .int .i64 hi] 23)) (.map (unEs3 w.heap.size w1.heap.size) 1)).1
    simpa [unEs3] using this
  · go_simp

set_option maxRecDepth 100000 in
set_option maxHeartbeats 4000000 in
theorem punaries_no (k lo hi ee : Int) (w : World) (h1 : (k == 1) = false) (h2 : (k == 2) = false) (h3 : (k == 3) = false) (F : ∀ w, Hid (Calls Try.prog 11 #[.int .i64 k] w fun e w' => e = .returned (.tuple #[.agg #[.int .i64 lo, .int .i64 hi], .int .i64 ee]) ∧ Below w.heap.size w w')) :
    Calls Try.prog 33 #[.int .i64 k] w fun e w' => e = .returned (.map none) ∧ Below w.heap.size w w' := by
  go_enter Try.func33, Try.ntmps33
  go_wp2_with fail
  refine (F _).out.mono ?_
  rintro e w1 ⟨rfl, hb⟩
  have z : w.heap.size < w1.heap.size := by have := hb.size; simp at this; omega
  have k0 : w1.cell? ⟨w.heap.size, 0, none⟩ = some (.int .i64 k) := cell_later hb (by go_simp)
  have k0' : ∀ o1, (w1.alloc o1).cell? ⟨w.heap.size, 0, none⟩ = some (.int .i64 k) := fun o1 => by rw [World.cell?_alloc_lt _ _ _ (World.block_lt_of_cell? _ _ k0)]; exact k0
  have bl : Below w.heap.size w w1 := ((Below.refl _ _).alloc (Nat.le_refl _) _).trans (hb.mono (by simp))
  clear hb
  go_wp2
  go_ret
  exact ⟨rfl, bl.alloc (by omega) _⟩

def UnFindNo (op : Int) (w : World) (e : Ending) (w' : World) : Prop := ∃ m, e = .returned m ∧ Below w.heap.size w w' ∧ (Instr.lookup 64 m (.int .i64 op) true).run Try.prog w' = .ok (.tuple #[.nilFunc, .bool false]) w'
def Turns (g : Nat) (cap : Array Value) (a b x y : Int) (w : World) : Prop := ∀ w2, Below w.heap.size w w2 → Calls Try.prog g (#[.agg #[.int .i64 a, .int .i64 b]] ++ cap) w2 fun e w' => e = .returned (.agg #[.int .i64 x, .int .i64 y]) ∧ Below w2.heap.size w2 w'
def UnFind (op a b x y : Int) (w : World) (e : Ending) (w' : World) : Prop := ∃ m g cap, e = .returned m ∧ Below w.heap.size w w' ∧ (Instr.lookup 64 m (.int .i64 op) true).run Try.prog w' = .ok (.tuple #[.func (.func g) #[] cap, .bool true]) w' ∧ Enters g ∧ Turns g cap a b x y w'
def UnSome (op : Int) (w : World) (e : Ending) (w' : World) : Prop := ∃ m g cap, e = .returned m ∧ Below w.heap.size w w' ∧ (Instr.lookup 64 m (.int .i64 op) true).run Try.prog w' = .ok (.tuple #[.func (.func g) #[] cap, .bool true]) w'
theorem Turns.later {g : Nat} {cap : Array Value} {a b x y : Int} {w w' : World} (h : Turns g cap a b x y w) (hb : Below w.heap.size w w') : Turns g cap a b x y w' := fun w2 h2 => h w2 (hb.trans (h2.mono hb.size))

set_option maxRecDepth 100000 in
set_option maxHeartbeats 4000000 in
theorem punary_no (op k a b : Int) (w : World) (U : ∀ w, Hid (Calls Try.prog 33 #[.int .i64 k] w (UnFindNo op w))) :
    Calls Try.prog 19 #[.int .i64 op, .int .i64 k, .agg #[.int .i64 a, .int .i64 b]] w fun e w' => e = .returned (.tuple #[.agg #[.int .i64 0, .int .i64 0], .int .i64 2]) ∧ Below w.heap.size w w' := by
  go_enter Try.func19, Try.ntmps19
  go_wp2_with fail
  have KI : Keeps (w.heap.size) [(w.heap.size, 0, .int .i64 a), (w.heap.size, 1, .int .i64 b)] [(w.heap.size + 1, 0), (w.heap.size + 1, 1)] w ((w.alloc (.cells #[.int .i64 a, .int .i64 b] 23)).alloc (.cells #[.int .i64 0, .int .i64 0] 23)) := by
    refine ⟨?_, ?_, ?_, ?_, by simp; try omega, ((Below.refl _ _).alloc (Nat.le_refl _) _).alloc (by simp) _⟩
    · simp only [List.forall_mem_cons, List.not_mem_nil, false_imp_iff, implies_true, and_true]
      exact ⟨by go_simp, by go_simp⟩
    · simp only [List.forall_mem_cons, List.not_mem_nil, false_imp_iff, implies_true, and_true]
      exact ⟨valAt_some (by go_simp), valAt_some (by go_simp)⟩
    · simp only [List.forall_mem_cons, List.not_mem_nil, false_imp_iff, implies_true, and_true]
      exact ⟨by go_simp, by go_simp⟩
    · simp only [List.forall_mem_cons, List.not_mem_nil, false_imp_iff, implies_true, and_true]
      exact ⟨by simp; try omega, by simp; try omega⟩
  have KI := Lib.hid KI
  generalize ((w.alloc (.cells #[.int .i64 a, .int .i64 b] 23)).alloc (.cells #[.int .i64 0, .int .i64 0] 23)) = W at *
  refine (U _).out.mono ?_
  rintro e w1 ⟨m, rfl, hb, L⟩
  have K1 := Lib.hid (KI.out.later hb)
  clear hb KI
  have k0 : w1.cell? ⟨w.heap.size, 0, none⟩ = some (.int .i64 a) := (K1.out).fixed (w.heap.size, 0, .int .i64 a) (by simp)
  have k1 : w1.cell? ⟨w.heap.size, 1, none⟩ = some (.int .i64 b) := (K1.out).fixed (w.heap.size, 1, .int .i64 b) (by simp)
  have v0 : w1.cell? ⟨w.heap.size + 1, 0, none⟩ = some (valAt w1 ⟨w.heap.size + 1, 0, none⟩) := (K1.out).there (w.heap.size + 1, 0) (by simp)
  have f0 : w1.frozen? ⟨w.heap.size + 1, 0, none⟩ = false := (K1.out).froz (w.heap.size + 1, 0) (by simp)
  have v1 : w1.cell? ⟨w.heap.size + 1, 1, none⟩ = some (valAt w1 ⟨w.heap.size + 1, 1, none⟩) := (K1.out).there (w.heap.size + 1, 1) (by simp)
  have f1 : w1.frozen? ⟨w.heap.size + 1, 1, none⟩ = false := (K1.out).froz (w.heap.size + 1, 1) (by simp)
  have z0 : w.heap.size + 1 < w1.heap.size := (K1.out).lt (w.heap.size + 1, 0) (by simp)
  go_wp2
  have bl := K1.out.bl
  refine bodyPost_ret (v := .tuple #[.agg #[.int .i64 0, .int .i64 0], .int .i64 2]) (by simp [results, Try.results19, go_sem, v0, v1]) rfl ⟨rfl, (bl.setCell (by simp) _).setCell (by simp) _⟩

set_option maxRecDepth 100000 in
set_option maxHeartbeats 4000000 in
theorem punary_bad (op k a b : Int) (w : World) (U : ∀ w, Hid (Calls Try.prog 33 #[.int .i64 k] w (UnSome op w))) (Q : Are1 k a b false) :
    Calls Try.prog 19 #[.int .i64 op, .int .i64 k, .agg #[.int .i64 a, .int .i64 b]] w fun e w' => e = .returned (.tuple #[.agg #[.int .i64 0, .int .i64 0], .int .i64 2]) ∧ Below w.heap.size w w' := by
  have Q := Lib.hid Q
  go_enter Try.func19, Try.ntmps19
  go_wp2_with fail
  have KI : Keeps (w.heap.size) [(w.heap.size, 0, .int .i64 a), (w.heap.size, 1, .int .i64 b)] [(w.heap.size + 1, 0), (w.heap.size + 1, 1)] w ((w.alloc (.cells #[.int .i64 a, .int .i64 b] 23)).alloc (.cells #[.int .i64 0, .int .i64 0] 23)) := by
    refine ⟨?_, ?_, ?_, ?_, by simp; try omega, ((Below.refl _ _).alloc (Nat.le_refl _) _).alloc (by simp) _⟩
    · simp only [List.forall_mem_cons, List.not_mem_nil, false_imp_iff, implies_true, and_true]
      exact ⟨by go_simp, by go_simp⟩
    · simp only [List.forall_mem_cons, List.not_mem_nil, false_imp_iff, implies_true, and_true]
      exact ⟨valAt_some (by go_simp), valAt_some (by go_simp)⟩
    · simp only [List.forall_mem_cons, List.not_mem_nil, false_imp_iff, implies_true, and_true]
      exact ⟨by go_simp, by go_simp⟩
    · simp only [List.forall_mem_cons, List.not_mem_nil, false_imp_iff, implies_true, and_true]
      exact ⟨by simp; try omega, by simp; try omega⟩
  have KI := Lib.hid KI
  generalize ((w.alloc (.cells #[.int .i64 a, .int .i64 b] 23)).alloc (.cells #[.int .i64 0, .int .i64 0] 23)) = W at *
  refine (U _).out.mono ?_
  rintro e w1 ⟨m, g, cap, rfl, hb, L⟩
  have K1 := Lib.hid (KI.out.later hb)
  clear hb KI
  have k0 : w1.cell? ⟨w.heap.size, 0, none⟩ = some (.int .i64 a) := (K1.out).fixed (w.heap.size, 0, .int .i64 a) (by simp)
  have k1 : w1.cell? ⟨w.heap.size, 1, none⟩ = some (.int .i64 b) := (K1.out).fixed (w.heap.size, 1, .int .i64 b) (by simp)
  have v0 : w1.cell? ⟨w.heap.size + 1, 0, none⟩ = some (valAt w1 ⟨w.heap.size + 1, 0, none⟩) := (K1.out).there (w.heap.size + 1, 0) (by simp)
  have f0 : w1.frozen? ⟨w.heap.size + 1, 0, none⟩ = false := (K1.out).froz (w.heap.size + 1, 0) (by simp)
  have v1 : w1.cell? ⟨w.heap.size + 1, 1, none⟩ = some (valAt w1 ⟨w.heap.size + 1, 1, none⟩) := (K1.out).there (w.heap.size + 1, 1) (by simp)
  have f1 : w1.frozen? ⟨w.heap.size + 1, 1, none⟩ = false := (K1.out).froz (w.heap.size + 1, 1) (by simp)
  have z0 : w.heap.size + 1 < w1.heap.size := (K1.out).lt (w.heap.size + 1, 0) (by simp)
  have y0 : w.heap.size < w1.heap.size := by omega
  go_wp2_with fail
  refine (Q.out _ _ _ (by simp) (by omega) ⟨by go_simp, by go_simp⟩).mono ?_
  clear y0 L k0 k1 v0 f0 v1 f1 z0
  rintro e w2 ⟨rfl, hb⟩
  have b2 := ((Below.refl w1.heap.size w1).alloc (Nat.le_refl _) _).trans (hb.mono (by simp))
  have K2 := Lib.hid (K1.out.later b2)
  clear hb b2 K1
  have k0 : w2.cell? ⟨w.heap.size, 0, none⟩ = some (.int .i64 a) := (K2.out).fixed (w.heap.size, 0, .int .i64 a) (by simp)
  have k1 : w2.cell? ⟨w.heap.size, 1, none⟩ = some (.int .i64 b) := (K2.out).fixed (w.heap.size, 1, .int .i64 b) (by simp)
  have v0 : w2.cell? ⟨w.heap.size + 1, 0, none⟩ = some (valAt w2 ⟨w.heap.size + 1, 0, none⟩) := (K2.out).there (w.heap.size + 1, 0) (by simp)
  have f0 : w2.frozen? ⟨w.heap.size + 1, 0, none⟩ = false := (K2.out).froz (w.heap.size + 1, 0) (by simp)
  have v1 : w2.cell? ⟨w.heap.size + 1, 1, none⟩ = some (valAt w2 ⟨w.heap.size + 1, 1, none⟩) := (K2.out).there (w.heap.size + 1, 1) (by simp)
  have f1 : w2.frozen? ⟨w.heap.size + 1, 1, none⟩ = false := (K2.out).froz (w.heap.size + 1, 1) (by simp)
  have z0 : w.heap.size + 1 < w2.heap.size := (K2.out).lt (w.heap.size + 1, 0) (by simp)
  go_wp2
  have bl := K2.out.bl
  refine bodyPost_ret (v := .tuple #[.agg #[.int .i64 0, .int .i64 0], .int .i64 2]) (by simp [results, Try.results19, go_sem, v0, v1]) rfl ⟨rfl, (bl.setCell (by simp) _).setCell (by simp) _⟩

set_option maxRecDepth 100000 in
set_option maxHeartbeats 4000000 in
theorem punary_ok (op k a b x y : Int) (w : World) (U : ∀ w, Hid (Calls Try.prog 33 #[.int .i64 k] w (UnFind op a b x y w))) (Q : Are1 k a b true) :
    Calls Try.prog 19 #[.int .i64 op, .int .i64 k, .agg #[.int .i64 a, .int .i64 b]] w fun e w' => e = .returned (.tuple #[.agg #[.int .i64 x, .int .i64 y], .int .i64 0]) ∧ Below w.heap.size w w' := by
  have Q := Lib.hid Q
  go_enter Try.func19, Try.ntmps19
  go_wp2_with fail
  have KI : Keeps (w.heap.size) [(w.heap.size, 0, .int .i64 a), (w.heap.size, 1, .int .i64 b)] [(w.heap.size + 1, 0), (w.heap.size + 1, 1)] w ((w.alloc (.cells #[.int .i64 a, .int .i64 b] 23)).alloc (.cells #[.int .i64 0, .int .i64 0] 23)) := by
    refine ⟨?_, ?_, ?_, ?_, by simp; try omega, ((Below.refl _ _).alloc (Nat.le_refl _) _).alloc (by simp) _⟩
    · simp only [List.forall_mem_cons, List.not_mem_nil, false_imp_iff, implies_true, and_true]
      exact ⟨by go_simp, by go_simp⟩
    · simp only [List.forall_mem_cons, List.not_mem_nil, false_imp_iff, implies_true, and_true]
      exact ⟨valAt_some (by go_simp), valAt_some (by go_simp)⟩
    · simp only [List.forall_mem_cons, List.not_mem_nil, false_imp_iff, implies_true, and_true]
      exact ⟨by go_simp, by go_simp⟩
    · simp only [List.forall_mem_cons, List.not_mem_nil, false_imp_iff, implies_true, and_true]
      exact ⟨by simp; try omega, by simp; try omega⟩
  have KI := Lib.hid KI
  generalize ((w.alloc (.cells #[.int .i64 a, .int .i64 b] 23)).alloc (.cells #[.int .i64 0, .int .i64 0] 23)) = W at *
  refine (U _).out.mono ?_
  rintro e w1 ⟨m, g, cap, rfl, hb, L, hE, hK⟩
  have K1 := Lib.hid (KI.out.later hb)
  have HK := Lib.hid hK
  have eg : ∀ args w, (callFunc g args).run Try.prog w = .ok (.enter g args) w := hE
  clear hb KI hK hE
  have k0 : w1.cell? ⟨w.heap.size, 0, none⟩ = some (.int .i64 a) := (K1.out).fixed (w.heap.size, 0, .int .i64 a) (by simp)
  have k1 : w1.cell? ⟨w.heap.size, 1, none⟩ = some (.int .i64 b) := (K1.out).fixed (w.heap.size, 1, .int .i64 b) (by simp)
  have v0 : w1.cell? ⟨w.heap.size + 1, 0, none⟩ = some (valAt w1 ⟨w.heap.size + 1, 0, none⟩) := (K1.out).there (w.heap.size + 1, 0) (by simp)
  have f0 : w1.frozen? ⟨w.heap.size + 1, 0, none⟩ = false := (K1.out).froz (w.heap.size + 1, 0) (by simp)
  have v1 : w1.cell? ⟨w.heap.size + 1, 1, none⟩ = some (valAt w1 ⟨w.heap.size + 1, 1, none⟩) := (K1.out).there (w.heap.size + 1, 1) (by simp)
  have f1 : w1.frozen? ⟨w.heap.size + 1, 1, none⟩ = false := (K1.out).froz (w.heap.size + 1, 1) (by simp)
  have z0 : w.heap.size + 1 < w1.heap.size := (K1.out).lt (w.heap.size + 1, 0) (by simp)
  have y0 : w.heap.size < w1.heap.size := by omega
  go_wp2_with fail
  refine (Q.out _ _ _ (by simp) (by omega) ⟨by go_simp, by go_simp⟩).mono ?_
  clear y0 L k0 k1 v0 f0 v1 f1 z0
  rintro e w2 ⟨rfl, hb⟩
  have b2 := ((Below.refl w1.heap.size w1).alloc (Nat.le_refl _) _).trans (hb.mono (by simp))
  have K2 := Lib.hid (K1.out.later b2)
  have HK2 := Lib.hid (HK.out.later b2)
  clear hb b2 K1 HK
  have k0 : w2.cell? ⟨w.heap.size, 0, none⟩ = some (.int .i64 a) := (K2.out).fixed (w.heap.size, 0, .int .i64 a) (by simp)
  have k1 : w2.cell? ⟨w.heap.size, 1, none⟩ = some (.int .i64 b) := (K2.out).fixed (w.heap.size, 1, .int .i64 b) (by simp)
  have v0 : w2.cell? ⟨w.heap.size + 1, 0, none⟩ = some (valAt w2 ⟨w.heap.size + 1, 0, none⟩) := (K2.out).there (w.heap.size + 1, 0) (by simp)
  have f0 : w2.frozen? ⟨w.heap.size + 1, 0, none⟩ = false := (K2.out).froz (w.heap.size + 1, 0) (by simp)
  have v1 : w2.cell? ⟨w.heap.size + 1, 1, none⟩ = some (valAt w2 ⟨w.heap.size + 1, 1, none⟩) := (K2.out).there (w.heap.size + 1, 1) (by simp)
  have f1 : w2.frozen? ⟨w.heap.size + 1, 1, none⟩ = false := (K2.out).froz (w.heap.size + 1, 1) (by simp)
  have z0 : w.heap.size + 1 < w2.heap.size := (K2.out).lt (w.heap.size + 1, 0) (by simp)
  go_wp2_with fail
  refine (HK2.out w2 (Below.refl _ _)).mono ?_
  clear k0 k1 v0 f0 v1 f1 z0
  rintro e w3 ⟨rfl, hb⟩
  have K3 := Lib.hid (K2.out.later hb)
  clear hb K2 HK2
  have k0 : w3.cell? ⟨w.heap.size, 0, none⟩ = some (.int .i64 a) := (K3.out).fixed (w.heap.size, 0, .int .i64 a) (by simp)
  have k1 : w3.cell? ⟨w.heap.size, 1, none⟩ = some (.int .i64 b) := (K3.out).fixed (w.heap.size, 1, .int .i64 b) (by simp)
  have v0 : w3.cell? ⟨w.heap.size + 1, 0, none⟩ = some (valAt w3 ⟨w.heap.size + 1, 0, none⟩) := (K3.out).there (w.heap.size + 1, 0) (by simp)
  have f0 : w3.frozen? ⟨w.heap.size + 1, 0, none⟩ = false := (K3.out).froz (w.heap.size + 1, 0) (by simp)
  have v1 : w3.cell? ⟨w.heap.size + 1, 1, none⟩ = some (valAt w3 ⟨w.heap.size + 1, 1, none⟩) := (K3.out).there (w.heap.size + 1, 1) (by simp)
  have f1 : w3.frozen? ⟨w.heap.size + 1, 1, none⟩ = false := (K3.out).froz (w.heap.size + 1, 1) (by simp)
  have z0 : w.heap.size + 1 < w3.heap.size := (K3.out).lt (w.heap.size + 1, 0) (by simp)
  go_wp2
  have bl := K3.out.bl
  refine bodyPost_ret (v := .tuple #[.agg #[.int .i64 x, .int .i64 y], .int .i64 0]) (by simp [results, Try.results19, go_sem, v0, v1]) rfl ⟨rfl, (bl.setCell (by simp) _).setCell (by simp) _⟩

end Go.Proofs.Ytomjcpgjlhencaa

/- Unary and ToSmall of the program keep what the statements of layer 4 ask of them. -/
namespace Go.Proofs.Ytomjcpgjlhencaa
open Go.RowKit RangesMath Go.MapKept

theorem psmall_spec : SmlSpec 23 := by
  intro a b ha hb w
  refine Lib.hid ?_
  obtain ⟨a1, a2⟩ := ha
  obtain ⟨b1, b2⟩ := hb
  have Q := are1_any 1 a b
  unfold toSmallS
  by_cases h : checkErr 1 a b = 0
  · rw [if_pos h]
    rw [show okB 1 a b = true by simp [okB, h]] at Q
    have hab : a ≤ b := (check_ok64 h).le
    have N1 : NumTo 43 #[.int .i64 a] (a / 18446744073709551616) (a % 18446744073709551616) := fun w => Lib.hid (pnumber_of a w a1 a2)
    have N2 : NumTo 43 #[.int .i64 b] (b / 18446744073709551616) (b % 18446744073709551616) := fun w => Lib.hid (pnumber_of b w b1 b2)
    have A := arnd_any a b
    rw [show min a b = a by omega, show max a b = b by omega] at A
    have T : IntoTo 2 (a / 18446744073709551616) (a % 18446744073709551616) (b / 18446744073709551616) (b % 18446744073709551616) (fin a b 2).1 (fin a b 2).2 := fun w => Lib.hid (pinto 2 a b (.inr ⟨rfl, a1, a2, b1, b2⟩) w)
    have R := psmall_ok a b _ _ _ _ _ _ _ _ _ _ w Q N1 N2 T A
    have e : fin a b 2 = broughtS a b false 2 := (broughtS_fin a b 2 false (by rw [out64_no a1 a2, out64_no b1 b2]; rfl)).symm
    rw [e] at R
    exact R
  · rw [if_neg h]
    rw [show okB 1 a b = false by simp [okB, h]] at Q
    exact psmall_bad a b w Q

theorem zero_un (w : World) : (zeroValue 62).run Try.prog w = .ok .nilFunc w := by kernel_rfl
theorem ent_u1 : Enters 50 := fun _ _ => by kernel_rfl
theorem ent_u2 : Enters 51 := fun _ _ => by kernel_rfl
theorem find_un (kb ab : Nat) (op : Int) (h1 : ¬ op = 1) (h3 : ¬ op = 3) : Instr.findNow (.int .i64) (.int .i64 op) (unEs kb ab).toList 0 = some none := by
  have e1 : (op == 1) = false := by simpa using h1
  have e3 : (op == 3) = false := by simpa using h3
  simp only [unEs, Instr.findNow, Instr.sameNow, if_true]
  rw [e1, e3]
theorem find_un3 (kb ab : Nat) (op : Int) (h2 : ¬ op = 2) : Instr.findNow (.int .i64) (.int .i64 op) (unEs3 kb ab).toList 0 = some none := by
  have e2 : (op == 2) = false := by simpa using h2
  simp only [unEs3, Instr.findNow, Instr.sameNow, if_true]
  rw [e2]
theorem full_hid (k : Int) : ∀ w, Hid (Calls Try.prog 11 #[.int .i64 k] w fun e w' => e = .returned (.tuple #[.agg #[.int .i64 (fullLow k), .int .i64 (fullHigh k)], .int .i64 (fullErr k)]) ∧ Below w.heap.size w w') := fun w => Lib.hid (pfull_any k w)
theorem una_map (k : Int) (hk : k = 1 ∨ k = 2) (w : World) : Calls Try.prog 33 #[.int .i64 k] w (UnaMap k (fullLow k) (fullHigh k) unEs 2 w) := by
  rcases hk with rfl | rfl
  · exact punaries_1 _ _ _ w (full_hid 1)
  · exact punaries_2 _ _ _ w (full_hid 2)

theorem un_no (op k : Int) (h : fits1 op k = false) (w : World) : Calls Try.prog 33 #[.int .i64 k] w (UnFindNo op w) := by
  simp only [fits1, decide_eq_false_iff_not] at h
  rcases kind_cases k with rfl | rfl | rfl | ⟨k1, k2, k3⟩
  · refine (una_map 1 (.inl rfl) w).mono ?_
    rintro e w' ⟨b, ab, rfl, hb, _, _, _, _, _, hB⟩
    exact ⟨_, rfl, hB, run_look_none Try.underlying64 Try.underlying3 hb (find_un _ _ op (by omega) (by omega)) (zero_un w') true⟩
  · refine (una_map 2 (.inr rfl) w).mono ?_
    rintro e w' ⟨b, ab, rfl, hb, _, _, _, _, _, hB⟩
    exact ⟨_, rfl, hB, run_look_none Try.underlying64 Try.underlying3 hb (find_un _ _ op (by omega) (by omega)) (zero_un w') true⟩
  · refine (punaries_3 _ _ _ w (full_hid 3)).mono ?_
    rintro e w' ⟨b, ab, rfl, hb, _, _, _, _, _, hB⟩
    exact ⟨_, rfl, hB, run_look_none Try.underlying64 Try.underlying3 hb (find_un3 _ _ op (by omega)) (zero_un w') true⟩
  · refine (punaries_no k _ _ _ w k1 k2 k3 (full_hid k)).mono ?_
    rintro e w' ⟨rfl, hB⟩
    exact ⟨_, rfl, hB, run_look_nil Try.underlying64 Try.underlying3 (zero_un w') true⟩

/-- The sum of the ends of a kind's range: to turn a value round is to take it from that. -/
def endsS (k : Int) : Int := fullLow k + fullHigh k
theorem un_turn (op k a b : Int) (h : k = 1 ∧ op = 3 ∨ k = 2 ∧ op = 3 ∨ k = 3 ∧ op = 2) (hc : checkErr k a b = 0) (w : World) : Calls Try.prog 33 #[.int .i64 k] w (UnFind op a b (endsS k - b) (endsS k - a) w) := by
  have o := check_parts hc
  have key : ∀ (w' : World) (ab : Nat), ab < w'.heap.size → w'.cell? ⟨ab, 0, none⟩ = some (.int .i64 (fullLow k)) → w'.cell? ⟨ab, 1, none⟩ = some (.int .i64 (fullHigh k)) → Turns 50 #[.pointer (some ⟨ab, 0, none⟩)] a b (endsS k - b) (endsS k - a) w' := by
    intro w' ab hz c0 c1 w2 h2
    have d0 := (h2.cell (p := ⟨ab, 0, none⟩) hz).trans c0
    have d1 := (h2.cell (p := ⟨ab, 1, none⟩) hz).trans c1
    have hk : endsS k = -1 ∧ k = 1 ∨ endsS k = 255 ∧ k = 2 ∨ endsS k = 1 ∧ k = 3 := by
      rcases h with ⟨rfl, _⟩ | ⟨rfl, _⟩ | ⟨rfl, _⟩ <;> simp [endsS, fullLow, fullHigh]
    have oo := check_ok64 hc
    have o1 := oo.le
    have o2 := oo.lo
    have o3 := oo.hi
    have lo : (k = 2 ∨ k = 3) → 0 ≤ a := by
      intro hk'
      have := o.2.2.1
      rcases hk' with rfl | rfl <;> simpa [fullLow] using this
    exact pturned a b (fullLow k) (fullHigh k) ab w2 (Nat.lt_of_lt_of_le hz h2.size) d0 d1 (by unfold endsS at hk; omega) (by unfold endsS at hk; omega) (by unfold endsS at hk; omega) (by unfold endsS at hk; omega) (by unfold endsS at hk; omega) (by unfold endsS at hk; omega)
  rcases h with ⟨rfl, rfl⟩ | ⟨rfl, rfl⟩ | ⟨rfl, rfl⟩
  · refine (una_map 1 (.inl rfl) w).mono ?_
    rintro e w' ⟨b', ab, rfl, hb, _, _, c0, c1, hz, hB⟩
    exact ⟨_, _, _, rfl, hB, run_look (i := 1) Try.underlying64 Try.underlying3 hb rfl true, ent_u1, key w' ab hz c0 c1⟩
  · refine (una_map 2 (.inr rfl) w).mono ?_
    rintro e w' ⟨b', ab, rfl, hb, _, _, c0, c1, hz, hB⟩
    exact ⟨_, _, _, rfl, hB, run_look (i := 1) Try.underlying64 Try.underlying3 hb rfl true, ent_u1, key w' ab hz c0 c1⟩
  · refine (punaries_3 _ _ _ w (full_hid 3)).mono ?_
    rintro e w' ⟨b', ab, rfl, hb, _, _, c0, c1, hz, hB⟩
    exact ⟨_, _, _, rfl, hB, run_look (i := 0) Try.underlying64 Try.underlying3 hb rfl true, ent_u1, key w' ab hz c0 c1⟩

theorem un_neg (k a b : Int) (hk : k = 1 ∨ k = 2) (hc : checkErr k a b = 0) (w : World) : Calls Try.prog 33 #[.int .i64 k] w (UnFind 1 a b (fin (-b) (-a) k).1 (fin (-b) (-a) k).2 w) := by
  have oo := check_ok64 hc
  have o1 := oo.le
  have o2 := oo.lo
  have o3 := oo.hi
  have o := check_parts hc
  have lo : k = 2 → 0 ≤ a ∧ b ≤ 255 := by
    rintro rfl
    have h1 := o.2.2.1
    have h2 := o.2.2.2
    exact ⟨by simpa [fullLow] using h1, by simpa [fullHigh] using h2⟩
  refine (una_map k hk w).mono ?_
  rintro e w' ⟨b', ab, rfl, hb, c0, hz, _, _, _, hB⟩
  refine ⟨_, _, _, rfl, hB, run_look (i := 0) Try.underlying64 Try.underlying3 hb rfl true, ent_u2, ?_⟩
  intro w2 h2
  have N1 : NumTo 52 #[.int .i64 0, .int .i64 a] ((0 - a) / 18446744073709551616) ((0 - a) % 18446744073709551616) := fun w => Lib.hid (pdifference 0 a w (by omega) (by omega) (by omega) (by omega))
  have N2 : NumTo 52 #[.int .i64 0, .int .i64 b] ((0 - b) / 18446744073709551616) ((0 - b) % 18446744073709551616) := fun w => Lib.hid (pdifference 0 b w (by omega) (by omega) (by omega) (by omega))
  have A := arnd_any (0 - a) (0 - b)
  rw [show min (0 - a) (0 - b) = -b by omega, show max (0 - a) (0 - b) = -a by omega] at A
  have T : IntoTo k (-b / 18446744073709551616) (-b % 18446744073709551616) (-a / 18446744073709551616) (-a % 18446744073709551616) (fin (-b) (-a) k).1 (fin (-b) (-a) k).2 := fun w => Lib.hid (pinto k (-b) (-a) (by rcases hk with h | h; exact .inl h; have := lo h; exact .inr ⟨h, by omega, by omega, by omega, by omega⟩) w)
  exact pnegative k a b _ _ _ _ _ _ _ _ _ _ w.heap.size w2 (Nat.lt_of_lt_of_le hz h2.size) ((h2.cell (p := ⟨w.heap.size, 0, none⟩) hz).trans c0) N1 N2 T A

theorem un_some (op k : Int) (h : (op = 1 ∨ op = 3) ∧ (k = 1 ∨ k = 2) ∨ op = 2 ∧ k = 3) (w : World) : Calls Try.prog 33 #[.int .i64 k] w (UnSome op w) := by
  rcases h with ⟨ho, hk⟩ | ⟨rfl, rfl⟩
  · refine (una_map k hk w).mono ?_
    rintro e w' ⟨b', ab, rfl, hb, _, _, _, _, _, hB⟩
    rcases ho with rfl | rfl
    · exact ⟨_, _, _, rfl, hB, run_look (i := 0) Try.underlying64 Try.underlying3 hb rfl true⟩
    · exact ⟨_, _, _, rfl, hB, run_look (i := 1) Try.underlying64 Try.underlying3 hb rfl true⟩
  · refine (punaries_3 _ _ _ w (full_hid 3)).mono ?_
    rintro e w' ⟨b', ab, rfl, hb, _, _, _, _, _, hB⟩
    exact ⟨_, _, _, rfl, hB, run_look (i := 0) Try.underlying64 Try.underlying3 hb rfl true⟩

theorem neg_eq (k a b : Int) (hk : k = 1 ∨ k = 2) (o : Ok64 a b) :
    broughtS (min (min (min (wrap64 (0 - a)) (wrap64 (0 - b))) (wrap64 (0 - a))) (wrap64 (0 - b))) (max (max (max (wrap64 (0 - a)) (wrap64 (0 - b))) (wrap64 (0 - a))) (wrap64 (0 - b))) (((out64 (0 - a) || out64 (0 - b)) || out64 (0 - a)) || out64 (0 - b)) k = fin (-b) (-a) k := by
  obtain ⟨o1, o2, o3⟩ := o
  have e1 : out64 (0 - a) = RangesMath.out64 (-a) := by unfold out64 RangesMath.out64; rw [show 0 - a = -a by omega]
  have e2 : out64 (0 - b) = RangesMath.out64 (-b) := by unfold out64 RangesMath.out64; rw [show 0 - b = -b by omega]
  rw [e1, e2]
  unfold broughtS fin low8
  cases f1 : RangesMath.out64 (-a) <;> cases f2 : RangesMath.out64 (-b) <;> simp only [Bool.or_true, Bool.true_or, Bool.or_false, Bool.false_or, Bool.or_self, if_true, Bool.false_eq_true, if_false] <;> try rfl
  simp only [RangesMath.out64, decide_eq_false_iff_not] at f1 f2
  rw [show wrap64 (0 - a) = -a by unfold wrap64; omega, show wrap64 (0 - b) = -b by unfold wrap64; omega]
  rw [show min (min (min (-a) (-b)) (-a)) (-b) = -b by omega, show max (max (max (-a) (-b)) (-a)) (-b) = -a by omega, low8_eq, low8_eq]
  rfl

theorem punary_spec : UnaSpec 19 := by
  intro op k a b ha hb w
  refine Lib.hid ?_
  have Q := are1_any k a b
  unfold unaryS
  cases hf : fits1 op k with
  | false =>
    rw [if_neg (by simp)]
    exact punary_no op k a b w (fun w => Lib.hid (un_no op k hf w))
  | true =>
    have hf' := hf
    simp only [fits1, decide_eq_true_eq] at hf'
    by_cases hc : checkErr k a b = 0
    · rw [if_pos ⟨rfl, hc⟩]
      rw [show okB k a b = true by simp [okB, hc]] at Q
      by_cases h1 : op = 1
      · subst h1
        have hk : k = 1 ∨ k = 2 := by omega
        have R := punary_ok 1 k a b _ _ w (fun w => Lib.hid (un_neg k a b hk hc w)) Q
        rw [if_pos rfl]
        rw [← neg_eq k a b hk (check_ok64 hc)] at R
        exact R
      · rw [if_neg h1]
        have R := punary_ok op k a b _ _ w (fun w => Lib.hid (un_turn op k a b (by omega) hc w)) Q
        by_cases h2 : op = 2
        · rw [if_pos h2]
          obtain rfl : k = 3 := by omega
          exact R
        · rw [if_neg h2]
          by_cases h3 : k = 2
          · subst h3
            rw [if_pos rfl]
            exact R
          · rw [if_neg h3]
            obtain rfl : k = 1 := by omega
            exact R
    · rw [if_neg (by simp [hc])]
      rw [show okB k a b = false by simp [okB, hc]] at Q
      exact punary_bad op k a b w (fun w => Lib.hid (un_some op k hf' w)) Q

end Go.Proofs.Ytomjcpgjlhencaa
