/- A part of the proof of TabG. -/
import Derived.Test.YtbkojaiecgdodaaDoorEnQ
set_option linter.unusedVariables false
set_option linter.unusedSimpArgs false
namespace Go.Proofs.YtbkojaiecgdodaaDoor
open Go Go.Ev Go.RowKit
set_option maxRecDepth 100000 in
set_option maxHeartbeats 2000000 in
theorem words_prog1 {w : World} {base n : Nat} {v : Value} {cs : List Value} {op d a b m : Int} (h3 : ¬ op = 3) (hbase : base ≤ w.heap.size) (hn : n ≤ 1000) (hown : w.ownsRow base 48 1 v n cs) :
    Calls Tryd.prog 27 #[v, .agg #[.int .i64 op, .int .i64 d, .int .i64 a, .int .i64 b, .int .i64 m]] w fun e w' => ∃ v', e = .returned v' ∧ w'.ownsRow base 48 1 v' (n + 1) (cs ++ [.int .u64 (bits .or .u64 (lowW op d a b) (IntKind.u64.wrap (IntKind.u64.wrap m * 4294967296)))]) ∧ Below base w w' := by
  obtain ⟨i0, hi, hz0, hz1, hz2⟩ := info_parts info48
  have h3' : (op == 3) = false := by simpa using h3
  have HO := Lib.hid hown
  clear hown
  go_enter Tryd.func27, Tryd.ntmps27
  go_wp2_with (at_builtin; refine wpList_append_lies _ rfl (.tmp 34) (.tmp 41) 27 rfl base 48 i0 _ 1 8 Tryd.underlying27 hi hz0 hz1 hz2 rfl (by omega) _ _ _ rfl ((HO.out.alloc _).alloc _) ⟨_, 0, none⟩ 1 1 [_] rfl rfl (World.news_of_block (by have := heap_alloc_new (w.alloc (.cells #[.int .i64 op, .int .i64 d, .int .i64 a, .int .i64 b, .int .i64 m] 26)) (.cells #[.int .u64 (bits .or .u64 (lowW op d a b) (IntKind.u64.wrap (IntKind.u64.wrap m * 4294967296)))] 48); simpa [lowW] using this)) (by intro u hu; simp at hu; subst hu; rfl) (by omega) (by unfold maxLen; omega) (by omega) (by simp; omega) _ rfl ?_)
  intro g cap w1 hown1 hgrow1 hat1 hlt1
  have HB := Lib.hid ((((Below.refl base w).alloc hbase _).alloc (by simp; omega) _).grown hgrow1 (by simp; omega) (fun j hj => (HO.out.lt j hj).1))
  have HN := Lib.hid hown1
  clear hown1 hgrow1 hat1 hlt1
  go_wp2_with fail
  exact bodyPost_ret (by simp [results, Tryd.results27, go_sem]) rfl ⟨_, rfl, HN.out, HB.out⟩
set_option maxRecDepth 100000 in
set_option maxHeartbeats 2000000 in
theorem words_prog2 {w : World} {base n : Nat} {v : Value} {cs : List Value} {op d a b m : Int} (h3 : op = 3) (hbase : base ≤ w.heap.size) (hn : n ≤ 1000) (hown : w.ownsRow base 48 1 v n cs) :
    Calls Tryd.prog 27 #[v, .agg #[.int .i64 op, .int .i64 d, .int .i64 a, .int .i64 b, .int .i64 m]] w fun e w' => ∃ v', e = .returned v' ∧ w'.ownsRow base 48 1 v' (n + 2) (cs ++ [.int .u64 (lowW op d a b), .int .u64 (IntKind.u64.wrap m)]) ∧ Below base w w' := by
  obtain ⟨i0, hi, hz0, hz1, hz2⟩ := info_parts info48
  have h3' : (op == 3) = true := by simpa using h3
  clear h3
  have HO := Lib.hid hown
  clear hown
  go_enter Tryd.func27, Tryd.ntmps27
  go_wp2_with (at_builtin; refine wpList_append_lies _ rfl (.tmp 27) (.tmp 32) 27 rfl base 48 i0 _ 1 8 Tryd.underlying27 hi hz0 hz1 hz2 rfl (by omega) _ _ _ rfl ((HO.out.alloc _).alloc _) ⟨_, 0, none⟩ 2 2 [_, _] rfl rfl (World.news_of_block (by have := heap_alloc_new (w.alloc (.cells #[.int .i64 op, .int .i64 d, .int .i64 a, .int .i64 b, .int .i64 m] 26)) (.cells #[.int .u64 (lowW op d a b), .int .u64 (IntKind.u64.wrap m)] 48); simpa [lowW] using this)) (by intro u hu; simp at hu; rcases hu with rfl | rfl <;> rfl) (by omega) (by unfold maxLen; omega) (by omega) (by simp; omega) _ rfl ?_)
  intro g cap w1 hown1 hgrow1 hat1 hlt1
  have HB := Lib.hid ((((Below.refl base w).alloc hbase _).alloc (by simp; omega) _).grown hgrow1 (by simp; omega) (fun j hj => (HO.out.lt j hj).1))
  have HN := Lib.hid hown1
  clear hown1 hgrow1 hat1 hlt1
  go_wp2_with fail
  exact bodyPost_ret (by simp [results, Tryd.results27, go_sem]) rfl ⟨_, rfl, HN.out, HB.out⟩
theorem words_prog {w : World} {base n : Nat} {v : Value} {cs : List Value} (x : MI) (hx : x.ok) (hbase : base ≤ w.heap.size) (hn : n ≤ 1000) (hown : w.ownsRow base 48 1 v n cs) :
    Calls Tryd.prog 27 #[v, .agg #[.int .i64 x.op, .int .i64 x.d, .int .i64 x.a, .int .i64 x.b, .int .i64 x.m]] w fun e w' => ∃ v', e = .returned v' ∧ w'.ownsRow base 48 1 v' (n + (wds x).length) (cs ++ cellsU (wds x)) ∧ Below base w w' := by
  by_cases h3 : x.op = 3
  · have e : wds x = [lowW x.op x.d x.a x.b, IntKind.u64.wrap x.m] := by
      unfold wds; rw [if_pos h3, lowW_eq hx, IntKind.wrap_u64]
    rw [e]
    exact words_prog2 h3 hbase hn hown
  · have e : wds x = [bits .or .u64 (lowW x.op x.d x.a x.b) (IntKind.u64.wrap (IntKind.u64.wrap x.m * 4294967296))] := by
      unfold wds; rw [if_neg h3, highW hx]
    rw [e]
    exact words_prog1 h3 hbase hn hown
set_option maxRecDepth 100000 in
set_option maxHeartbeats 2000000 in
theorem words_ref1 {w : World} {op d a b m : Int} (h3 : ¬ op = 3) (hv : VP op d a b m) :
    Calls Tryd.prog 28 #[.agg #[.int .i64 op, .int .i64 d, .int .i64 a, .int .i64 b, .int .i64 m]] w fun e w' => ∃ v', e = .returned v' ∧ w'.ownsRow w.heap.size 48 1 v' 1 [.int .u64 (low ⟨op, d, a, b, m⟩ + m % 4294967296 * 4294967296)] ∧ Below w.heap.size w w' := by
  have h3' : (op == 3) = false := by simpa using h3
  have e1 := lowR hv
  have e2 := highR hv
  generalize low ⟨op, d, a, b, m⟩ = L at *
  go_enter Tryd.func28, Tryd.ntmps28
  go_wp2_with fail
  refine bodyPost_ret (by simp [results, Tryd.results28, go_sem]) rfl ⟨_, rfl, ⟨rfl, .inr ⟨w.heap.size + 1, 1, #[_], rfl, by omega, ?_, by omega, by unfold maxLen; omega, rfl, rfl⟩⟩, ((Below.refl _ _).alloc (Nat.le_refl _) _).alloc (by simp) _⟩
  have := heap_alloc_new (w.alloc (.cells #[.int .i64 op, .int .i64 d, .int .i64 a, .int .i64 b, .int .i64 m] 26)) (.cells #[.int .u64 (L + m % 4294967296 * 4294967296)] 48)
  simpa using this
set_option maxRecDepth 100000 in
set_option maxHeartbeats 2000000 in
theorem words_ref2 {w : World} {op d a b m : Int} (h3 : op = 3) (hv : VP op d a b m) :
    Calls Tryd.prog 28 #[.agg #[.int .i64 op, .int .i64 d, .int .i64 a, .int .i64 b, .int .i64 m]] w fun e w' => ∃ v', e = .returned v' ∧ w'.ownsRow w.heap.size 48 1 v' 2 [.int .u64 (low ⟨op, d, a, b, m⟩), .int .u64 (m % 18446744073709551616)] ∧ Below w.heap.size w w' := by
  have h3' : (op == 3) = true := by simpa using h3
  clear h3
  have e1 := lowR hv
  have e2 := IntKind.wrap_u64 m
  generalize low ⟨op, d, a, b, m⟩ = L at *
  go_enter Tryd.func28, Tryd.ntmps28
  go_wp2_with fail
  refine bodyPost_ret (by simp [results, Tryd.results28, go_sem]) rfl ⟨_, rfl, ⟨rfl, .inr ⟨w.heap.size + 1, 2, #[_, _], rfl, by omega, ?_, by omega, by unfold maxLen; omega, rfl, rfl⟩⟩, ((Below.refl _ _).alloc (Nat.le_refl _) _).alloc (by simp) _⟩
  have := heap_alloc_new (w.alloc (.cells #[.int .i64 op, .int .i64 d, .int .i64 a, .int .i64 b, .int .i64 m] 26)) (.cells #[.int .u64 L, .int .u64 (m % 18446744073709551616)] 48)
  simpa using this
theorem words_ref {w : World} (x : MI) (hx : x.ok) :
    Calls Tryd.prog 28 #[.agg #[.int .i64 x.op, .int .i64 x.d, .int .i64 x.a, .int .i64 x.b, .int .i64 x.m]] w fun e w' => ∃ v', e = .returned v' ∧ w'.ownsRow w.heap.size 48 1 v' (wds x).length (cellsU (wds x)) ∧ Below w.heap.size w w' := by
  by_cases h3 : x.op = 3
  · have e : wds x = [low x, x.m % 18446744073709551616] := by unfold wds; rw [if_pos h3]
    rw [e]
    exact words_ref2 h3 hx
  · have e : wds x = [low x + x.m % 4294967296 * 4294967296] := by unfold wds; rw [if_neg h3]
    rw [e]
    exact words_ref1 h3 hx
end Go.Proofs.YtbkojaiecgdodaaDoor
