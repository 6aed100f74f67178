/- A part of an evaluator of runs, and that it is right. -/
import Derived.Lib.FrozenHead
import Derived.Lib.ConvBytes
import Derived.Laws.IdiomStrings
import Derived.OwnWalkIn
import Derived.RangeFuncBox
set_option linter.unusedVariables false
set_option linter.unusedSimpArgs false
namespace Go.Ev
open Go Go.RowKit Go.Lib
/-- a slice of bytes with a row of its own, from base on; behind the row's last cell a mark may lie -/
structure TRow (w : World) (base : Nat) (e : TypeId) (v : Value) (S : List UInt8) (g cap : Nat) (cur : Array Value) (fz : Nat × Nat) : Prop where
  val : v = .slice (some ⟨g, 0, none⟩) S.length cap
  ge : base ≤ g
  row : w.heap[g]? = some (.cells cur e fz)
  mark : fz = (0, 0) ∨ cur.size ≤ fz.1
  len : S.length ≤ cap
  capm : cap ≤ maxLen
  size : cur.size = cap
  is : cur.toList.take S.length = byteCells S
def Text (w : World) (base : Nat) (e : TypeId) (v : Value) (S : List UInt8) : Prop := ∃ g cap cur fz, TRow w base e v S g cap cur fz
theorem Text.kept {w w' : World} {base : Nat} {e : TypeId} {v : Value} {S : List UInt8} {row : Option Nat} (h : Text w base e v S) (hg : w.grownBy w' row) (hne : v.ownBlock ≠ row) : Text w' base e v S := by
  obtain ⟨g, cap, cur, fz, k⟩ := h
  refine ⟨g, cap, cur, fz, k.val, k.ge, ?_, k.mark, k.len, k.capm, k.size, k.is⟩
  rw [hg.block g (Array.getElem?_eq_some_iff.1 k.row).1 (by rw [k.val] at hne; simpa [Value.ownBlock] using hne)]
  exact k.row
theorem Text.shape {w : World} {base : Nat} {e : TypeId} {v : Value} {S : List UInt8} (h : Text w base e v S) : ∃ g cap, v = .slice (some ⟨g, 0, none⟩) S.length cap := let ⟨g, cap, _, _, k⟩ := h; ⟨g, cap, k.val⟩
theorem Text.shape' {w : World} {base : Nat} {e : TypeId} {v : Value} {S : List UInt8} (h : Text w base e v S) : ∃ g cap N, N = S.length ∧ v = .slice (some ⟨g, 0, none⟩) N cap := let ⟨g, cap, _, _, k⟩ := h; ⟨g, cap, _, rfl, k.val⟩
theorem Text.ge {w : World} {base : Nat} {e : TypeId} {v : Value} {S : List UInt8} (h : Text w base e v S) : ∃ g, v.ownBlock = some g ∧ base ≤ g ∧ g < w.heap.size := by
  obtain ⟨g, cap, cur, fz, k⟩ := h
  exact ⟨g, by rw [k.val]; rfl, k.ge, (Array.getElem?_eq_some_iff.1 k.row).1⟩
theorem Text.later {w w' : World} {base : Nat} {e : TypeId} {v : Value} {S : List UInt8} (h : Text w base e v S) (hb : Below w.heap.size w w') : Text w' base e v S :=
  h.kept (row := none) ⟨hb.os, hb.tape, hb.output, hb.size, fun k hk _ => hb.block k hk⟩ (by obtain ⟨g, e, _⟩ := h.ge; rw [e]; simp)
theorem Boxed.later {w w' : World} {B : Nat} {t : TypeId} {v : Value} (h : Boxed w B t v) (hb : Below w.heap.size w w') : Boxed w' B t v := (hb.block B h.lt).trans h
theorem storeCells_T (P : Program) (g o : Nat) (t : TypeId) (fz : Nat × Nat) : ∀ (vs : List Value) (i : Nat) (cur : Array Value) (w : World), w.heap[g]? = some (.cells cur t fz) → (fz = (0, 0) ∨ cur.size ≤ fz.1) → o + i + vs.length ≤ cur.size → (∀ v ∈ vs, v.oneCell' = true) →
    (storeCells ⟨g, o, none⟩ vs i).run P w = .ok () (w.setRow g (cur.toList.take (o + i) ++ vs ++ cur.toList.drop (o + i + vs.length)).toArray)
  | [], i, cur, w, hg, _, _, _ => by
    simp only [storeCells, List.append_nil, List.length_nil, Nat.add_zero, List.take_append_drop, Array.toArray_toList]
    rw [setRow_self w g cur t fz hg]
    rfl
  | v :: rest, i, cur, w, hg, hfz, hl, h1 => by
    have hi : o + i < cur.size := by simp at hl; omega
    have hadd : (⟨g, o, none⟩ : Addr).add i = ⟨g, o + i, none⟩ := by unfold Addr.add; split <;> simp_all
    have hcell : w.cell? ⟨g, o + i, none⟩ = some cur[o + i] := by simp [World.cell?, hg, hi]
    have hfro : w.frozen? ⟨g, o + i, none⟩ = false := by
      obtain ⟨lo, hi'⟩ := fz
      simp only [World.frozen?, hg, Bool.and_eq_false_iff, decide_eq_false_iff_not]
      rcases hfz with h | h
      · right; simp at h; omega
      · left; simp only at h; omega
    have hst : (store ((⟨g, o, none⟩ : Addr).add i) v).run P w = .ok () (w.setRow g (cur.setIfInBounds (o + i) v)) := by
      rw [hadd, run_store P w _ v _ (h1 v (by simp)), hcell]
      simp [hfro, setCell_eq_setRow w g (o + i) cur t fz v hg]
    have ih := storeCells_T P g o t fz rest (i + 1) (cur.setIfInBounds (o + i) v) (w.setRow g (cur.setIfInBounds (o + i) v)) (setRow_heap w g cur _ t _ hg) (by simpa using hfz) (by simp at hl ⊢; omega) (fun x hx => h1 x (by simp [hx]))
    simp only [storeCells, Sem.run_bind, hst, Result.andThen_ok, ih, setRow_setRow]
    congr 3
    have e := list_seg_step cur.toList (o + i) v rest (by simp at hl ⊢; omega)
    simpa [Array.toList_setIfInBounds, Nat.add_assoc] using e
/-- one more string behind a text -/
theorem run_append_T {P : Program} (w : World) (base : Nat) (t u ty e : TypeId) (i : TypeInfo) (ht : P.underlying t = some (.slice e)) (hu : P.underlying u = some .string) (hi : P.info? e = some i) (hz : i.zero = some (.int .u8 0))
    (hsize : i.size = 1) (hby : i.bytes = 1) (v : Value) (S l : List UInt8) (hT : Text w base e v S) (h63 : S.length + l.length ≤ 1000000) (hbase : base ≤ w.heap.size) :
    ∃ v' w', (Builtin.append_ #[t, u] ty #[v, .string ⟨⟨l⟩⟩]).run P w = .ok v' w' ∧ Text w' base e v' (S ++ l) ∧ w.grownBy w' v.ownBlock := by
  obtain ⟨g, cap, cur, fz, k⟩ := hT
  obtain rfl := k.val
  have hls : (⟨⟨l⟩⟩ : ByteArray).size = l.length := rfl
  have hcs : strCells ⟨⟨l⟩⟩ = byteCells l := rfl
  have hlen : (S ++ l).length = S.length + l.length := List.length_append
  have hbl : byteCells (S ++ l) = byteCells S ++ byteCells l := byteCells_append S l
  have hbS : (byteCells S).length = S.length := byteCells_length S
  have hbL : (byteCells l).length = l.length := byteCells_length l
  have hbA : (byteCells S ++ byteCells l).length = S.length + l.length := by rw [List.length_append, hbS, hbL]
  have hm : (1000000 : Nat) ≤ maxLen := by decide
  by_cases hroom : S.length + l.length ≤ cap
  · have hf := run_firstCells_string (P := P) w 1 ⟨⟨l⟩⟩
    have hst := storeCells_T P g S.length e fz (byteCells l) 0 cur w k.row k.mark (by rw [hbL, k.size]; omega) (fun u hu => strCells_oneCell ⟨⟨l⟩⟩ u hu)
    simp only [Nat.add_zero, hbL] at hst
    have hr : (Builtin.append_ #[t, u] ty #[.slice (some ⟨g, 0, none⟩) S.length cap, .string ⟨⟨l⟩⟩]).run P w = .ok (.slice (some ⟨g, 0, none⟩) (S.length + l.length) cap) (w.setRow g (cur.toList.take S.length ++ byteCells l ++ cur.toList.drop (S.length + l.length)).toArray) := by
      rw [hls, hcs] at hf
      simp [Builtin.append_, run_underlying ht, run_underlying hu, sizeOf, typeInfo, hi, hsize, Builtin.lenOf, hls, hroom, hf, Addr.add_lit, hst]
    refine ⟨_, _, hr, ⟨g, cap, _, fz, by rw [hlen], k.ge, setRow_heap w g cur _ e _ k.row, ?_, by rw [hlen]; exact hroom, k.capm, ?_, ?_⟩, ⟨rfl, rfl, rfl, by simp, fun j _ hj => setRow_other w g j _ (fun e => hj (by simp [Value.ownBlock, e]))⟩⟩
    · rcases k.mark with h | h
      · exact .inl h
      · refine .inr ?_
        have := k.size
        simp only [List.size_toArray, List.length_append, List.length_take, List.length_drop, Array.length_toList, hbL]
        omega
    · have := k.size
      simp only [List.size_toArray, List.length_append, List.length_take, List.length_drop, Array.length_toList, hbL]
      omega
    · rw [hlen, k.is, hbl, ← hbA]
      exact List.take_left
  · have holds : ∀ j u, (byteCells S)[j]? = some u → w.cell? ((⟨g, 0, none⟩ : Addr).add j) = some u := by
      intro j u hju
      have hadd : (⟨g, 0, none⟩ : Addr).add j = ⟨g, j, none⟩ := by unfold Addr.add; split <;> simp_all
      rw [hadd, cell_of_row w g j cur e fz k.row]
      rw [← k.is, List.getElem?_take] at hju
      split at hju
      · simpa using hju
      · cases hju
    have hr := run_append_grow_string (P := P) w t u ty e i (.int .u8 0) ht hu hi hz ⟨g, 0, none⟩ S.length cap (byteCells S) (by rw [hsize, hbS, Nat.mul_one]) holds ⟨⟨l⟩⟩ (by rw [hls]; omega) (by rw [hls]; omega) (by rw [hby]; exact growslice_fits (by rw [hls]; omega) (by rw [hls]; omega))
    rw [hls, hcs] at hr
    have hge := grownCap_ge w (S.length + l.length) cap e
    have hcm2 : grownCap w (S.length + l.length) cap e ≤ maxLen := grownCap_le_maxLen w (S.length + l.length) cap e (by omega)
    refine ⟨_, _, hr, ⟨w.heap.size, _, _, (0, 0), by rw [hlen], hbase, heap_alloc_new w.drew _, .inl rfl, by rw [hlen]; exact hge, hcm2, ?_, ?_⟩, ⟨rfl, rfl, rfl, by simp, fun j hj _ => heap_alloc_old w.drew _ hj⟩⟩
    · have hz1 : (Value.int IntKind.u8 0).cells.size = 1 := rfl
      simp only [Array.size_append, List.size_toArray, size_zeroCells, hz1, hbS, hbL]
      omega
    · simp only [Array.toList_append, List.append_assoc]
      rw [hlen, hbl, ← List.append_assoc, ← hbA]
      exact List.take_left
section
variable {P : Program} {o : Oper} {a : Act} {w : World} {K : Act → World → Prop} {Q : Exit → Act → World → Prop}
/-- the operation 'append(text, s...)' -/
theorem wp_append_T (sl x : Operand) (t u : TypeId) (ho : o.op = .call { callee := .builtin .append, args := #[sl, x], argTypes := #[t, u] })
    (base : Nat) (e : TypeId) (i : TypeInfo) (ht : P.underlying t = some (.slice e)) (hu : P.underlying u = some .string) (hi : P.info? e = some i) (hz : i.zero = some (.int .u8 0)) (hsize : i.size = 1) (hby : i.bytes = 1)
    (v : Value) (S l : List UInt8) (hs : a.eval sl = v) (hx : a.eval x = .string ⟨⟨l⟩⟩) (hT : Text w base e v S) (h63 : S.length + l.length ≤ 1000000) (hbase : base ≤ w.heap.size)
    (h : ∀ g cap N w', N = (S ++ l).length → Text w' base e (.slice (some ⟨g, 0, none⟩) N cap) (S ++ l) → w.grownBy w' v.ownBlock → K (a.put o.dst (.slice (some ⟨g, 0, none⟩) N cap)) w') : Oper.wp P o a w K Q := by
  obtain ⟨v', w', hr, h2, h3⟩ := run_append_T (P := P) w base t u o.type e i ht hu hi hz hsize hby v S l hT h63 hbase
  obtain ⟨g, cap, N, hN, rfl⟩ := h2.shape'
  unfold Oper.wp execOp
  simp only [ho, resolve, invoke, builtin, Sem.run_bind, Sem.run_pure, Result.andThen_ok, List.map_toArray, List.map_cons, List.map_nil, hs, hx, hr]
  exact h g cap N w' hN h2 h3
theorem step_append_T {ops : Array Oper} {E : Prop} (hgd : o.guard = none) (sl x : Operand) (t u : TypeId) (ho : o.op = .call { callee := .builtin .append, args := #[sl, x], argTypes := #[t, u] })
    (base : Nat) (e : TypeId) (i : TypeInfo) (ht : P.underlying t = some (.slice e)) (hu : P.underlying u = some .string) (hi : P.info? e = some i) (hz : i.zero = some (.int .u8 0)) (hsize : i.size = 1) (hby : i.bytes = 1)
    (v : Value) (S l : List UInt8) (hs : a.eval sl = v) (hx : a.eval x = .string ⟨⟨l⟩⟩) (hT : Text w base e v S) (h63 : S.length + l.length ≤ 1000000) (hbase : base ≤ w.heap.size)
    (h : ∀ g cap N w', N = (S ++ l).length → Text w' base e (.slice (some ⟨g, 0, none⟩) N cap) (S ++ l) → w.grownBy w' v.ownBlock → K (a.put o.dst (.slice (some ⟨g, 0, none⟩) N cap)) w') :
    if Region.wanted o (yielded ops a.tmps) = true then Oper.wp P o a w K Q else E := by
  have hw : Region.wanted o (yielded ops a.tmps) = true := by simp [Region.wanted, hgd]
  rw [if_pos hw]
  exact wp_append_T sl x t u ho base e i ht hu hi hz hsize hby v S l hs hx hT h63 hbase h
/-- the same inside a fence -/
theorem wpIn_append_T {F : Fence} {n : Nat} (sl x : Operand) (t u : TypeId) (ho : o.op = .call { callee := .builtin .append, args := #[sl, x], argTypes := #[t, u] })
    (base : Nat) (e : TypeId) (i : TypeInfo) (ht : P.underlying t = some (.slice e)) (hu : P.underlying u = some .string) (hi : P.info? e = some i) (hz : i.zero = some (.int .u8 0)) (hsize : i.size = 1) (hby : i.bytes = 1)
    (v : Value) (S l : List UInt8) (hs : a.eval sl = v) (hx : a.eval x = .string ⟨⟨l⟩⟩) (hT : Text w base e v S) (h63 : S.length + l.length ≤ 1000000) (hbase : base ≤ w.heap.size)
    (h : ∀ g cap N w', N = (S ++ l).length → Text w' base e (.slice (some ⟨g, 0, none⟩) N cap) (S ++ l) → w.grownBy w' v.ownBlock → K (a.put o.dst (.slice (some ⟨g, 0, none⟩) N cap)) w') : Oper.wpIn F n P o a w K Q := by
  obtain ⟨v', w', hr, h2, h3⟩ := run_append_T (P := P) w base t u o.type e i ht hu hi hz hsize hby v S l hT h63 hbase
  obtain ⟨g, cap, N, hN, rfl⟩ := h2.shape'
  unfold Oper.wpIn
  refine ⟨?_, ?_⟩
  · simp [Oper.about, ho, resolve, Target.leads, Sem.run_pure]
  · rw [Oper.semAt_plain F _ _ (by rw [ho]; intro c hc'; cases hc')]
    simp [execOp, ho, resolve, invoke, builtin, hs, hx, hr, Result.andThen]
    exact h g cap N w' hN h2 h3
theorem stepIn_append_T {F : Fence} {n : Nat} {ops : Array Oper} {E : Prop} (hgd : o.guard = none) (sl x : Operand) (t u : TypeId) (ho : o.op = .call { callee := .builtin .append, args := #[sl, x], argTypes := #[t, u] })
    (base : Nat) (e : TypeId) (i : TypeInfo) (ht : P.underlying t = some (.slice e)) (hu : P.underlying u = some .string) (hi : P.info? e = some i) (hz : i.zero = some (.int .u8 0)) (hsize : i.size = 1) (hby : i.bytes = 1)
    (v : Value) (S l : List UInt8) (hs : a.eval sl = v) (hx : a.eval x = .string ⟨⟨l⟩⟩) (hT : Text w base e v S) (h63 : S.length + l.length ≤ 1000000) (hbase : base ≤ w.heap.size)
    (h : ∀ g cap N w', N = (S ++ l).length → Text w' base e (.slice (some ⟨g, 0, none⟩) N cap) (S ++ l) → w.grownBy w' v.ownBlock → K (a.put o.dst (.slice (some ⟨g, 0, none⟩) N cap)) w') :
    if Region.wanted o (yielded ops a.tmps) = true then Oper.wpIn F n P o a w K Q else E := by
  have hw : Region.wanted o (yielded ops a.tmps) = true := by simp [Region.wanted, hgd]
  rw [if_pos hw]
  exact wpIn_append_T sl x t u ho base e i ht hu hi hz hsize hby v S l hs hx hT h63 hbase h
end
/-- what a store of the longer text into the variable's box leaves -/
theorem Text.appended {W w1 : World} {n₀ B : Nat} {t e : TypeId} {v v' : Value} {S S' : List UInt8} (hv : Boxed W B t v) (hte : t ≠ e) (hrow : Text W n₀ e v S) (hB : n₀ ≤ B) (hn₀ : n₀ ≤ W.heap.size)
    (hown' : Text w1 n₀ e v' S') (hgrow : W.grownBy w1 v.ownBlock) :
    Boxed w1 B t v ∧ Boxed (w1.setCell ⟨B, 0, none⟩ v') B t v' ∧ Text (w1.setCell ⟨B, 0, none⟩ v') n₀ e v' S' ∧ KeepsOthers W (w1.setCell ⟨B, 0, none⟩ v') ∧ Below n₀ W (w1.setCell ⟨B, 0, none⟩ v') := by
  have nr : ∀ {X : World} {u x : Value} {Z : List UInt8}, Boxed X B t u → Text X n₀ e x Z → x.ownBlock ≠ some B := by
    rintro X u x Z hu ⟨g, cap, cur, fz, k⟩ e'
    rw [k.val] at e'
    have : g = B := by simpa [Value.ownBlock] using e'
    subst this
    have := (show X.heap[g]? = _ from hu).symm.trans k.row
    simp at this
    exact hte this.2.1
  have hv1 : Boxed w1 B t v := hv.kept hgrow (fun e' => nr hv hrow e'.symm)
  refine ⟨hv1, hv1.set v', hown'.kept (grownBy_setCell' w1 B v') (nr hv1 hown'), ?_, ?_⟩
  · refine (KeepsOthers.of_grownBy hgrow fun j o ej hj => ?_).trans (KeepsOthers.setCell _ _ _)
    obtain ⟨g, cap, cur, fz, k⟩ := hrow
    rw [k.val] at ej
    obtain rfl : g = j := by simpa [Value.ownBlock] using ej
    rw [k.row] at hj; cases hj; rfl
  · refine ((Below.refl n₀ W).grown hgrow hn₀ fun j ej => ?_).setCell (p := ⟨B, 0, none⟩) hB v'
    obtain ⟨g, cap, cur, fz, k⟩ := hrow
    rw [k.val] at ej
    obtain rfl : g = j := by simpa [Value.ownBlock] using ej
    exact k.ge
/-- a string as a text -/
theorem run_conv_T {P : Program} (w : World) (src dst e : TypeId) (S : List UInt8) (hs : P.underlying src = some .string) (hd : P.underlying dst = some (.slice e)) (he : P.underlying e = some (.int .u8)) (hS : S.length ≤ 1000000) :
    ∃ v w', (convert src dst (.string ⟨⟨S⟩⟩)).run P w = .ok v w' ∧ Text w' w.heap.size e v S ∧ Below w.heap.size w w' ∧ w'.heap.size = w.heap.size + 1 := by
  refine ⟨_, _, Lib.run_convert_string_bytes w src dst e ⟨⟨S⟩⟩ hs hd he, ⟨w.heap.size, grownCap w S.length 0 e, _, _, rfl, Nat.le_refl _, bytesWorld_at_new w e ⟨⟨S⟩⟩, .inr (Nat.le_refl _), grownCap_ge w S.length 0 e, grownCap_le_maxLen w S.length 0 e (by have : (1000000 : Nat) ≤ maxLen := (by decide); omega), ?_, ?_⟩, ?_, bytesWorld_size w e _⟩
  · have hge := grownCap_ge w S.length 0 e
    have hls : (⟨⟨S⟩⟩ : ByteArray).size = S.length := rfl
    simp [bytesCells, hls]; omega
  · simp [bytesCells, byteCells]
  · exact ⟨by rfl, by rfl, by rfl, by rw [bytesWorld_size]; omega, fun B hB => bytesWorld_at_old w e _ B hB⟩
/-- a text as a string -/
theorem run_back_T {P : Program} (w : World) (base : Nat) (src dst e : TypeId) (v : Value) (S : List UInt8) (hs : P.underlying src = some (.slice e)) (he : P.underlying e = some (.int .u8)) (hd : P.underlying dst = some .string) (hT : Text w base e v S) :
    (convert src dst v).run P w = .ok (.string ⟨⟨S⟩⟩) w := by
  obtain ⟨g, cap, cur, fz, k⟩ := hT
  obtain rfl := k.val
  refine run_convert_bytes_back w src dst e ⟨g, 0, none⟩ cap S hs he hd fun j hj => ?_
  have hadd : (⟨g, 0, none⟩ : Addr).add j = ⟨g, j, none⟩ := by unfold Addr.add; split <;> simp_all
  rw [hadd, cell_of_row w g j cur e fz k.row]
  have h1 : (byteCells S)[j]? = some (.int .u8 (S[j].toNat : Int)) := by simp [byteCells, hj]
  rw [← k.is, List.getElem?_take] at h1
  rw [if_pos hj] at h1
  simpa using h1
end Go.Ev
