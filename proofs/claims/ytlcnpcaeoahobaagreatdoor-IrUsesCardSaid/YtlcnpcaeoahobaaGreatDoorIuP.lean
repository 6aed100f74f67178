/- Slices of operands, the registers among them, and what a function that tells the registers of an instruction answers. -/
import Derived.Test.YtlcnpcaeoahobaaGreatDoorIuM
import Derived.WalkKit
import Derived.WalkSpells
import Derived.WalkLawsBesides
import Derived.LoopTactic
import Derived.Lib.Hide
import Derived.OwnWalk
import Derived.Deep.AppendLies
import Derived.Deep.QuietTactic
import Derived.BigQuiet
import Derived.Maps.AppendAt
import Derived.Laws.AppendOwnNone
set_option linter.unusedVariables false
set_option linter.unusedSimpArgs false
namespace Go.Proofs.YtlcnpcaeoahobaaGreatDoor
open Go Go.Ev Go.RowKit

theorem info3 : (Tryz.prog.info? 3).map (fun i => (i.zero, i.size, i.bytes)) = some (some (.int .i64 0), 1, 8) := by kernel_rfl
theorem info23 : (Tryz.prog.info? 23).map (fun i => (i.zero, i.size, i.bytes)) = some (some (.agg #[.int .i64 0, .int .i64 0]), 2, 16) := by kernel_rfl

theorem add_twice (a : Addr) (i j : Nat) : (a.add i).add j = a.add (i + j) := by
  unfold Addr.add
  by_cases hi : i = 0 <;> by_cases hj : j = 0 <;> simp [hi, hj, Nat.add_assoc]
/-- a slice of operands, nil or not -/
structure Opds (w : World) (A : Option Addr) (n c : Nat) (os : List (Int × Int)) : Prop where
  len : os.length = n
  nil : A = none → n = 0 ∧ c = 0
  get : ∀ k, k < n → ∃ ad, A = some ad ∧ w.cell? (ad.add (k * 2)) = some (.int .i64 (os.getD k (0, 0)).1) ∧ w.cell? (ad.add (k * 2 + 1)) = some (.int .i64 (os.getD k (0, 0)).2)
theorem Opds.later {w w' : World} {A : Option Addr} {n c : Nat} {os : List (Int × Int)} (h : Opds w A n c os) (hb : Below w.heap.size w w') : Opds w' A n c os :=
  ⟨h.len, h.nil, fun k hk => by
    obtain ⟨ad, e, h1, h2⟩ := h.get k hk
    exact ⟨ad, e, (hb.cell (World.block_lt_of_cell? w _ h1)).trans h1, (hb.cell (World.block_lt_of_cell? w _ h2)).trans h2⟩⟩
/-- the registers among operands -/
def regs (os : List (Int × Int)) : List Int := (os.map (·.1)).filter fun r => decide (0 ≤ r)
theorem regs_zero (os : List (Int × Int)) : regs (os.take 0) = [] := by simp [regs]
theorem take_next (os : List (Int × Int)) {k : Nat} (h : k < os.length) : os.take (k + 1) = os.take k ++ [os.getD k (0, 0)] := by
  rw [List.take_succ_eq_append_getElem h]
  simp [List.getD, List.getElem?_eq_getElem h]
theorem regs_hit {os : List (Int × Int)} {k : Nat} (h : k < os.length) (h0 : 0 ≤ (os.getD k (0, 0)).1) : regs (os.take (k + 1)) = regs (os.take k) ++ [(os.getD k (0, 0)).1] := by
  rw [take_next os h]; unfold regs; rw [List.map_append, List.filter_append]; congr 1; simp at h0 ⊢; exact h0
theorem regs_miss {os : List (Int × Int)} {k : Nat} (h : k < os.length) (h0 : ¬ 0 ≤ (os.getD k (0, 0)).1) : regs (os.take (k + 1)) = regs (os.take k) := by
  rw [take_next os h]; unfold regs; rw [List.map_append, List.filter_append]; simp at h0 ⊢; omega
theorem regs_le (os : List (Int × Int)) (k : Nat) : (regs (os.take k)).length ≤ k := by
  unfold regs
  refine Nat.le_trans (List.length_filter_le _ _) ?_
  rw [List.length_map, List.length_take]; omega
theorem regs_all (os : List (Int × Int)) : regs (os.take os.length) = regs os := by rw [List.take_length]
def cellsI (l : List Int) : List Value := l.map (Value.int .i64)
/-- what a function that tells the registers of an instruction answers -/
def UsesOut (os : List (Int × Int)) (to : Int) (w : World) (e : Ending) (w' : World) : Prop :=
  ∃ v, e = .returned (.tuple #[v, .int .i64 (max to (-1))]) ∧ w'.ownsRow w.heap.size 3 1 v (regs os).length (cellsI (regs os)) ∧ Below w.heap.size w w'
theorem owns_form {w : World} {base e size n : Nat} {v : Value} {xs : List Value} (h : w.ownsRow base e size v n xs) :
    ∃ (o : Option Addr) (cap : Nat), v = .slice o n cap ∧ n ≤ cap ∧ (n = 0 ∧ o = none ∨ ∃ g, o = some ⟨g, 0, none⟩ ∧ base ≤ g ∧ g < w.heap.size ∧ ∀ i u, xs[i]? = some u → w.cell? ⟨g, i, none⟩ = some u) := by
  rcases h with ⟨hl, h⟩
  rcases h with ⟨rfl, rfl⟩ | ⟨g, cap, cur, rfl, hb, hg, hn, hc, hs, hx⟩
  · exact ⟨none, 0, rfl, Nat.le_refl _, .inl ⟨rfl, rfl⟩⟩
  · refine ⟨_, cap, rfl, hn, .inr ⟨g, rfl, hb, ?_, ?_⟩⟩
    · rcases Nat.lt_or_ge g w.heap.size with hlt | hge
      · exact hlt
      · simp [Array.getElem?_eq_none hge] at hg
    · intro i u hu
      rw [cell_of_row w g i cur e (0, 0) hg]
      rw [← hx] at hu
      rw [List.getElem?_take] at hu
      split at hu
      · simpa using hu
      · cases hu
theorem owns_mono {w : World} {base base' : Nat} {e : TypeId} {size : Nat} {v : Value} {n : Nat} {xs : List Value} (h : w.ownsRow base e size v n xs) (hb : base' ≤ base) : w.ownsRow base' e size v n xs := by
  obtain ⟨h1, h2 | ⟨g, cap, cur, h3, h4, h5⟩⟩ := h
  · exact ⟨h1, .inl h2⟩
  · exact ⟨h1, .inr ⟨g, cap, cur, h3, Nat.le_trans hb h4, h5⟩⟩
theorem at_below {B : Nat} {w w' : World} {g i : Nat} {v : Value} (hb : Below B w w') (hl : g < B) (h : w.cell? ⟨g, i, none⟩ = some v) : w'.cell? ⟨g, i, none⟩ = some v := (hb.cell (p := ⟨g, i, none⟩) hl).trans h
/-- the cells of operands -/
def flat (os : List (Int × Int)) : List Value := os.flatMap fun p => [.int .i64 p.1, .int .i64 p.2]
theorem flat_len (os : List (Int × Int)) : (flat os).length = os.length * 2 := by
  induction os with
  | nil => rfl
  | cons p l ih => simp [flat] at ih ⊢; omega
theorem flat_at (os : List (Int × Int)) (k : Nat) (h : k < os.length) : (flat os)[k * 2]? = some (.int .i64 (os.getD k (0, 0)).1) ∧ (flat os)[k * 2 + 1]? = some (.int .i64 (os.getD k (0, 0)).2) := by
  induction os generalizing k with
  | nil => simp at h
  | cons p l ih =>
    cases k with
    | zero => simp [flat]
    | succ k =>
      have := ih k (by simpa using h)
      have e : (k + 1) * 2 = k * 2 + 1 + 1 := by omega
      rw [e]
      simpa [flat] using this
theorem flat_one (os : List (Int × Int)) : ∀ u ∈ flat os, u.oneCell' = true := by
  intro u hu
  simp [flat] at hu
  obtain ⟨a, b, _, rfl | rfl⟩ := hu <;> rfl
theorem wpList_append_opds {w : World} {ops : Array Oper} {rest : List Oper} {o : Oper} {a : Act} {Q : Exit → Act → World → Prop} (hgd : o.guard = none) (s x : Operand)
    (ho : o.op = .call { callee := .builtin .append, args := #[s, x], argTypes := #[24, 24] }) {A : Option Addr} {n c : Nat} {os : List (Int × Int)} (hs : a.eval s = .slice none 0 0) (hx : a.eval x = .slice A n c)
    (hO : Opds w A n c os) (hn : n ≤ 500) (base : Nat) (hbase : base ≤ w.heap.size)
    (h : ∀ v w', w'.ownsRow base 23 2 v n (flat os) → w.grownBy w' none → wpList Tryz.prog ops Q rest (a.put o.dst v) w') : wpList Tryz.prog ops Q (o :: rest) a w := by
  obtain ⟨i1, hi1, hy0, hy1, hy2⟩ := info_parts info23
  cases A with
  | none =>
    obtain ⟨rfl, rfl⟩ := hO.nil rfl
    have e : os = [] := List.length_eq_zero_iff.1 hO.len
    subst e
    exact wpList_append_own_none hgd s x 24 ho base 23 i1 2 Tryz.underlying24 hi1 _ 0 [] hs (World.ownsRow_nil _ _ _ _) hx (h _ _ (World.ownsRow_nil _ _ _ _) ⟨rfl, rfl, rfl, Nat.le_refl _, fun _ _ _ => rfl⟩)
  | some ad =>
    refine wpList_append_own_at w hgd s x 24 ho base 23 i1 _ 2 16 Tryz.underlying24 hi1 hy0 hy1 hy2 rfl (by omega) (.slice none 0 0) 0 [] hs (World.ownsRow_nil _ _ _ _) ad n c (flat os) hx (by rw [flat_len, hO.len]) ?_ (flat_one os) (by unfold maxLen; omega) (by omega) hbase ?_
    · intro j u hj
      have hl : j < os.length * 2 := by rw [← flat_len]; exact (List.getElem?_eq_some_iff.1 hj).1
      obtain ⟨k, rfl | rfl⟩ : ∃ k, j = k * 2 ∨ j = k * 2 + 1 := ⟨j / 2, by omega⟩
      · obtain ⟨ad', e, h1, h2⟩ := hO.get k (by have := hO.len; omega)
        obtain rfl := Option.some.inj e
        rw [h1, ← hj, (flat_at os k (by omega)).1]
      · obtain ⟨ad', e, h1, h2⟩ := hO.get k (by have := hO.len; omega)
        obtain rfl := Option.some.inj e
        rw [h2, ← hj, (flat_at os k (by omega)).2]
    · intro v w' h1 h2 h3 h4
      rw [Nat.zero_add, List.nil_append] at h1
      exact h v w' h1 h2
theorem own_opds {w : World} {base n : Nat} {v : Value} {os : List (Int × Int)} (h : w.ownsRow base 23 2 v n (flat os)) (hl : os.length = n) : ∃ o cap, v = .slice o n cap ∧
    ∀ k, k < n → ∃ g, o = some ⟨g, 0, none⟩ ∧ w.cell? ⟨g, k * 2, none⟩ = some (.int .i64 (os.getD k (0, 0)).1) ∧ w.cell? ⟨g, k * 2 + 1, none⟩ = some (.int .i64 (os.getD k (0, 0)).2) := by
  obtain ⟨o, cap, rfl, hc, hf⟩ := owns_form h
  refine ⟨o, cap, rfl, fun k hk => ?_⟩
  rcases hf with ⟨e, _⟩ | ⟨g, rfl, _, _, hx⟩
  · omega
  · exact ⟨_, rfl, hx _ _ (flat_at os k (by omega)).1, hx _ _ (flat_at os k (by omega)).2⟩
/-- the instruction in its box, and what the caller has -/
structure In5 (w wx : World) (op to : Int) (A : Option Addr) (n c : Nat) : Prop where
  c0 : wx.cell? ⟨w.heap.size, 0, none⟩ = some (.int .i64 op)
  c2 : wx.cell? ⟨w.heap.size, 2, none⟩ = some (.int .i64 to)
  c10 : wx.cell? ⟨w.heap.size, 10, none⟩ = some (.slice A n c)
  bl : Below w.heap.size w wx
  sz : w.heap.size < wx.heap.size
theorem In5.later {w wx wy : World} {op to : Int} {A : Option Addr} {n c B : Nat} (h : In5 w wx op to A n c) (hB : w.heap.size < B) (hb : Below B wx wy) : In5 w wy op to A n c :=
  ⟨(hb.cell (p := ⟨w.heap.size, 0, none⟩) hB).trans h.c0, (hb.cell (p := ⟨w.heap.size, 2, none⟩) hB).trans h.c2, (hb.cell (p := ⟨w.heap.size, 10, none⟩) hB).trans h.c10, h.bl.trans (hb.mono (Nat.le_of_lt hB)), Nat.lt_of_lt_of_le h.sz hb.size⟩
theorem Laid.below {w wx : World} (h : Laid w) (hb : Below w.heap.size w wx) : Laid wx := by
  have z := h.size
  have c : ∀ b o u, b < 8 → w.cell? ⟨b, o, none⟩ = some u → wx.cell? ⟨b, o, none⟩ = some u := fun b o u hB hu => (hb.cell (p := ⟨b, o, none⟩) (by show b < w.heap.size; omega)).trans hu
  obtain ⟨u6, h6, k6⟩ := h.t6
  obtain ⟨u7, h7, k7⟩ := h.t7
  exact ⟨fun o u hu => c _ _ _ (by decide) (h.t0 o u hu), fun o u hu => c _ _ _ (by decide) (h.t1 o u hu), fun o u hu => c _ _ _ (by decide) (h.t2 o u hu), ⟨u6, c _ _ _ (by decide) h6, k6⟩, ⟨u7, c _ _ _ (by decide) h7, k7⟩⟩
theorem In5.laid {w wx : World} {op to : Int} {A : Option Addr} {n c : Nat} (h : In5 w wx op to A n c) (hL : Laid w) : Laid wx := hL.below h.bl
theorem noTab (w : World) : ∀ p ∈ ([] : List (Nat × List Value)), p.1 < Tryz.prog.globals.size ∧ flatL p.2 = true ∧ ∀ (o : Nat) (u : Value), p.2[o]? = some u → w.cell? ⟨p.1, o, none⟩ = some u := fun _ h => nomatch h
theorem rop9 : om (callN (envF Tryz.prog eqTypes sp [] []) 199 12 [.int .i64 9] (roH Tryz.prog.globals.size [])) Prod.fst = some (.bool true) := by kernel_rfl
theorem rop10 : om (callN (envF Tryz.prog eqTypes sp [] []) 199 12 [.int .i64 10] (roH Tryz.prog.globals.size [])) Prod.fst = some (.bool true) := by kernel_rfl
theorem isop_calls9 {w : World} (hL : Laid w) : Calls Tryz.prog 12 #[.int .i64 9] w fun e w' => e = .returned (.bool true) ∧ Below w.heap.size w w' :=
  open_run ok0 [] [] [] all_nil known_nil (args := [.int .i64 9]) (v := .bool true) (Nat.le_refl _) (by rw [nglobals]; exact hL.size) (noTab w) rfl rfl rop9
theorem isop_calls10 {w : World} (hL : Laid w) : Calls Tryz.prog 12 #[.int .i64 10] w fun e w' => e = .returned (.bool true) ∧ Below w.heap.size w w' :=
  open_run ok0 [] [] [] all_nil known_nil (args := [.int .i64 10]) (v := .bool true) (Nat.le_refl _) (by rw [nglobals]; exact hL.size) (noTab w) rfl rfl rop10
theorem own_regs {w : World} {base : Nat} {v : Value} {l : List Int} (h : w.ownsRow base 3 1 v l.length (cellsI l)) : ∃ o cap, v = .slice o l.length cap ∧
    ∀ k, k < l.length → ∃ g, o = some ⟨g, 0, none⟩ ∧ w.cell? ⟨g, k, none⟩ = some (.int .i64 (l.getD k 0)) := by
  obtain ⟨o, cap, rfl, hc, hf⟩ := owns_form h
  refine ⟨o, cap, rfl, fun k hk => ?_⟩
  rcases hf with ⟨e, _⟩ | ⟨g, rfl, _, _, hx⟩
  · omega
  · exact ⟨_, rfl, hx _ _ (by simp [cellsI, List.getD, List.getElem?_eq_getElem hk])⟩
/-- the argument in its box -/
structure Box3 (w wx : World) (cs : Array Value) : Prop where
  bx : wx.heap[w.heap.size]? = some (.cells cs 27 (0, 0))
  bl : Below w.heap.size w wx
  sz : w.heap.size < wx.heap.size
theorem Box3.later {w wx wy : World} {cs : Array Value} {B : Nat} (h : Box3 w wx cs) (hB : w.heap.size < B) (hb : Below B wx wy) : Box3 w wy cs :=
  ⟨(hb.block _ hB).trans h.bx, h.bl.trans (hb.mono (Nat.le_of_lt hB)), Nat.lt_of_lt_of_le h.sz hb.size⟩
theorem Box3.cell {w wx : World} {cs : Array Value} (h : Box3 w wx cs) (i : Nat) (v : Value) (hv : cs[i]? = some v) : wx.cell? ⟨w.heap.size, i, none⟩ = some v := by
  rw [cell_of_row wx _ i cs 27 (0, 0) h.bx, hv]
end Go.Proofs.YtlcnpcaeoahobaaGreatDoor
