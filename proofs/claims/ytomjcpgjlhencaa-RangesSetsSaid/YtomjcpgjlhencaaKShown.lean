/- The examples of layer 4 that every law of the layer asks first, out of the contracts of Binary and Assume. -/
import Derived.Test.YtomjcpgjlhencaaKRefB
import Derived.Test.YtomjcpgjlhencaaKRefDToSetSelf
set_option linter.unusedSimpArgs false
set_option linter.unusedVariables false
namespace Go.Proofs.Ytomjcpgjlhencaa
open Go.RowKit

def Eff (l h : Int) (s t u : Bool) : Value := .agg #[.int .i64 l, .int .i64 h, .bool s, .bool t, .bool u]

/-- Binary of the program under proof, at one input: it returns an effect and no error. -/
def BinOK (op k a b c d : Int) (l h : Int) (s t u : Bool) : Prop := ∀ w : World, Calls Try.prog 21 #[.int .i64 op, .int .i64 k, .agg #[.int .i64 a, .int .i64 b], .agg #[.int .i64 c, .int .i64 d]] w fun e w' => e = .returned (.tuple #[.agg #[.int .i64 l, .int .i64 h, .bool s, .bool t, .bool u], .int .i64 0]) ∧ Below w.heap.size w w'

def AssOK (op k a b c d : Int) (r : Bool) (x0 x1 y0 y1 : Int) (p : Bool) : Prop := ∀ w : World, Calls Try.prog 25 #[.int .i64 op, .int .i64 k, .agg #[.int .i64 a, .int .i64 b], .agg #[.int .i64 c, .int .i64 d], .bool r] w fun e w' => e = .returned (.tuple #[.agg #[.int .i64 x0, .int .i64 x1], .agg #[.int .i64 y0, .int .i64 y1], .bool p, .int .i64 0]) ∧ Below w.heap.size w w'

theorem keepA {w wx : World} {o : Obj} {a : Addr} {v : Value} (hb : Below (w.alloc o).heap.size (w.alloc o) wx) (h : w.cell? a = some v) : wx.cell? a = some v :=
  cell_later hb (by rw [World.cell?_alloc_lt _ _ _ (World.block_lt_of_cell? w a h)]; exact h)
theorem newA {w wx : World} {c : Array Value} {t i : Nat} {v : Value} (hb : Below (w.alloc (.cells c t)).heap.size (w.alloc (.cells c t)) wx) (h : c[i]? = some v) : wx.cell? ⟨w.heap.size, i, none⟩ = some v :=
  cell_later hb (by rw [World.cell?_alloc_new]; exact h)

set_option maxRecDepth 100000 in
set_option maxHeartbeats 1000000 in
theorem shown_of (h1 : BinOK 4 1 1 3 10 20 11 23 true false false) (h2 : BinOK 5 2 5 6 10 10 251 252 true false false) (h3 : BinOK 2 1 (-7) 9 (-2) 3 (-9) 9 true true false) (h4 : BinOK 3 1 (-5) 20 4 4 (-3) 3 true false false) (h5 : AssOK 13 1 0 10 5 5 true 0 4 5 5 true) (w : World) :
    Calls Try.prog 10 #[] w fun e w' => e = .returned (.bool true) ∧ Below w.heap.size w w' := by
  go_enter Try.func10, Try.ntmps10
  go_wp2_with fail
  refine (h1 _).mono ?_
  rintro e w1 ⟨rfl, hB1⟩
  have hz1 : w.heap.size ≤ w1.heap.size := by simpa using hB1.size
  have hT1 : Below w.heap.size w w1 := hB1
  go_wp2_with fail
  refine (h2 _).mono ?_
  rintro e w2 ⟨rfl, hB2⟩
  have hz2 : w1.heap.size < w2.heap.size := by have := hB2.size; simp at this; omega
  have hT2 : Below w.heap.size w w2 := (hT1.alloc (by omega) _).trans (hB2.mono (by simp; omega))
  have a2_1_0 : w2.cell? ⟨w1.heap.size, 0, none⟩ = some (.int .i64 (11)) := newA hB2 rfl
  have a2_1_1 : w2.cell? ⟨w1.heap.size, 1, none⟩ = some (.int .i64 (23)) := newA hB2 rfl
  clear hB2
  clear hT1
  go_wp2_with fail
  refine (h3 _).mono ?_
  rintro e w3 ⟨rfl, hB3⟩
  have hz3 : w2.heap.size < w3.heap.size := by have := hB3.size; simp at this; omega
  have hz13 : w1.heap.size < w3.heap.size := by omega
  have hT3 : Below w.heap.size w w3 := (hT2.alloc (by omega) _).trans (hB3.mono (by simp; omega))
  have a3_1_0 := keepA hB3 a2_1_0
  have a3_1_1 := keepA hB3 a2_1_1
  have a3_2_0 : w3.cell? ⟨w2.heap.size, 0, none⟩ = some (.int .i64 (251)) := newA hB3 rfl
  have a3_2_1 : w3.cell? ⟨w2.heap.size, 1, none⟩ = some (.int .i64 (252)) := newA hB3 rfl
  clear a2_1_0 a2_1_1
  clear hB3
  clear hT2
  go_wp2_with fail
  refine (h4 _).mono ?_
  rintro e w4 ⟨rfl, hB4⟩
  have hz4 : w3.heap.size < w4.heap.size := by have := hB4.size; simp at this; omega
  have hz14 : w1.heap.size < w4.heap.size := by omega
  have hz24 : w2.heap.size < w4.heap.size := by omega
  have hT4 : Below w.heap.size w w4 := (hT3.alloc (by omega) _).trans (hB4.mono (by simp; omega))
  have a4_1_0 := keepA hB4 a3_1_0
  have a4_1_1 := keepA hB4 a3_1_1
  have a4_2_0 := keepA hB4 a3_2_0
  have a4_2_1 := keepA hB4 a3_2_1
  have a4_3_0 : w4.cell? ⟨w3.heap.size, 0, none⟩ = some (.int .i64 (-9)) := newA hB4 rfl
  have a4_3_1 : w4.cell? ⟨w3.heap.size, 1, none⟩ = some (.int .i64 (9)) := newA hB4 rfl
  have a4_3_2 : w4.cell? ⟨w3.heap.size, 2, none⟩ = some (.bool true) := newA hB4 rfl
  have a4_3_3 : w4.cell? ⟨w3.heap.size, 3, none⟩ = some (.bool true) := newA hB4 rfl
  have a4_3_4 : w4.cell? ⟨w3.heap.size, 4, none⟩ = some (.bool false) := newA hB4 rfl
  clear a3_1_0 a3_1_1 a3_2_0 a3_2_1
  clear hB4
  clear hT3
  go_wp2_with fail
  refine (h5 _).mono ?_
  rintro e w5 ⟨rfl, hB5⟩
  have hz5 : w4.heap.size < w5.heap.size := by have := hB5.size; simp at this; omega
  have hz15 : w1.heap.size < w5.heap.size := by omega
  have hz25 : w2.heap.size < w5.heap.size := by omega
  have hz35 : w3.heap.size < w5.heap.size := by omega
  have hT5 : Below w.heap.size w w5 := (hT4.alloc (by omega) _).trans (hB5.mono (by simp; omega))
  have a5_1_0 := keepA hB5 a4_1_0
  have a5_1_1 := keepA hB5 a4_1_1
  have a5_2_0 := keepA hB5 a4_2_0
  have a5_2_1 := keepA hB5 a4_2_1
  have a5_3_0 := keepA hB5 a4_3_0
  have a5_3_1 := keepA hB5 a4_3_1
  have a5_3_2 := keepA hB5 a4_3_2
  have a5_3_3 := keepA hB5 a4_3_3
  have a5_3_4 := keepA hB5 a4_3_4
  have a5_4_0 : w5.cell? ⟨w4.heap.size, 0, none⟩ = some (.int .i64 (-3)) := newA hB5 rfl
  have a5_4_1 : w5.cell? ⟨w4.heap.size, 1, none⟩ = some (.int .i64 (3)) := newA hB5 rfl
  clear a4_1_0 a4_1_1 a4_2_0 a4_2_1 a4_3_0 a4_3_1 a4_3_2 a4_3_3 a4_3_4
  clear hB5
  clear hT4
  clear hB1
  go_wp2
  go_ret
  exact ⟨rfl, (hT5.alloc (by omega) _).alloc (by simp; omega) _⟩

end Go.Proofs.Ytomjcpgjlhencaa
