/- A part of the proof of TaaG. -/
import Derived.Test.YtbkojaiecgdodaaDoorTvW
import Derived.WalkKit
import Derived.WalkSpells
import Derived.WalkLawsBesides
import Derived.LoopTactic
import Derived.Lib.Hide
import Derived.OwnWalk
import Derived.Deep.AppendLies
import Derived.Deep.RegionHeld3
import Derived.Deep.QuietTactic
import Derived.BigQuiet
import Derived.Maps.AppendAt
import Derived.Laws.AppendOwnNone
set_option linter.unusedVariables false
set_option linter.unusedSimpArgs false
namespace Go.Proofs.YtbkojaiecgdodaaDoor
open Go Go.Ev Go.RowKit
theorem info48 : (Tryd.prog.info? 48).map (fun i => (i.zero, i.size, i.bytes)) = some (some (.int .u64 0), 1, 8) := by kernel_rfl
theorem info26 : (Tryd.prog.info? 26).map (fun i => (i.zero, i.size, i.bytes)) = some (some (.agg #[.int .i64 0, .int .i64 0, .int .i64 0, .int .i64 0, .int .i64 0]), 5, 40) := by kernel_rfl
theorem add_twice (a : Addr) (i j : Nat) : (a.add i).add j = a.add (i + j) := by
  unfold Addr.add
  by_cases hi : i = 0 <;> by_cases hj : j = 0 <;> simp [hi, hj, Nat.add_assoc]
/-- an instruction -/
structure MI where
  (op d a b m : Int)
instance : Inhabited MI := ⟨⟨0, 0, 0, 0, 0⟩⟩
def MI.fits (x : MI) : Prop := -9223372036854775808 ≤ x.op ∧ x.op ≤ 9223372036854775807 ∧ -9223372036854775808 ≤ x.m ∧ x.m ≤ 9223372036854775807
def MI.ok (x : MI) : Prop := VP x.op x.d x.a x.b x.m
noncomputable instance (x : MI) : Decidable x.ok := Classical.propDecidable _
def MI.val (x : MI) : Value := .agg #[.int .i64 x.op, .int .i64 x.d, .int .i64 x.a, .int .i64 x.b, .int .i64 x.m]
/-- a slice of instructions, nil or not -/
structure Rows5 (w : World) (A : Option Addr) (n c : Nat) (xs : List MI) : Prop where
  len : xs.length = n
  fits : ∀ x ∈ xs, x.fits
  nil : A = none → n = 0 ∧ c = 0
  get : ∀ k, k < n → ∃ B o, A = some ⟨B, o, none⟩ ∧ w.cell? ⟨B, o + k * 5, none⟩ = some (.int .i64 (xs.getD k default).op) ∧ w.cell? ⟨B, o + k * 5 + 1, none⟩ = some (.int .i64 (xs.getD k default).d) ∧ w.cell? ⟨B, o + k * 5 + 2, none⟩ = some (.int .i64 (xs.getD k default).a) ∧ w.cell? ⟨B, o + k * 5 + 3, none⟩ = some (.int .i64 (xs.getD k default).b) ∧ w.cell? ⟨B, o + k * 5 + 4, none⟩ = some (.int .i64 (xs.getD k default).m)
theorem add_none (B o i : Nat) : (⟨B, o, none⟩ : Addr).add i = ⟨B, o + i, none⟩ := by
  unfold Addr.add; by_cases h : i = 0 <;> simp [h]
theorem Rows5.later {w w' : World} {A : Option Addr} {n c : Nat} {xs : List MI} (h : Rows5 w A n c xs) (hb : Below w.heap.size w w') : Rows5 w' A n c xs :=
  ⟨h.len, h.fits, h.nil, fun k hk => by
    obtain ⟨B, o, e, h0, h1, h2, h3, h4⟩ := h.get k hk
    exact ⟨B, o, e, (hb.cell (World.block_lt_of_cell? w _ h0)).trans h0, (hb.cell (World.block_lt_of_cell? w _ h1)).trans h1, (hb.cell (World.block_lt_of_cell? w _ h2)).trans h2, (hb.cell (World.block_lt_of_cell? w _ h3)).trans h3, (hb.cell (World.block_lt_of_cell? w _ h4)).trans h4⟩⟩
def low (x : MI) : Int := x.op + x.d * 256 + x.a * 4096 + x.b * 65536
/-- the words of an instruction -/
def wds (x : MI) : List Int := if x.op = 3 then [low x, x.m % 18446744073709551616] else [low x + x.m % 4294967296 * 4294967296]
def cellsU (l : List Int) : List Value := l.map (Value.int .u64)
def allOk (xs : List MI) : Prop := ∀ x ∈ xs, x.ok
theorem owns_form {w : World} {base e size n : Nat} {v : Value} {xs : List Value} (h : w.ownsRow base e size v n xs) :
    ∃ (o : Option Addr) (cap : Nat), v = .slice o n cap ∧ n ≤ cap ∧ (n = 0 ∧ o = none ∨ ∃ g, o = some ⟨g, 0, none⟩ ∧ base ≤ g ∧ g < w.heap.size ∧ ∀ i u, xs[i]? = some u → w.cell? ⟨g, i, none⟩ = some u) := by
  rcases h with ⟨hl, h⟩
  rcases h with ⟨rfl, rfl⟩ | ⟨g, cap, cur, rfl, hb, hg, hn, hc, hs, hx⟩
  · exact ⟨none, 0, rfl, Nat.le_refl _, .inl ⟨rfl, rfl⟩⟩
  · refine ⟨_, cap, rfl, hn, .inr ⟨g, rfl, hb, ?_, ?_⟩⟩
    · rcases Nat.lt_or_ge g w.heap.size with hlt | hge
      · exact hlt
      · simp [Array.getElem?_eq_none hge] at hg
    · intro i u hu
      rw [cell_of_row w g i cur e (0, 0) hg]
      rw [← hx] at hu
      rw [List.getElem?_take] at hu
      split at hu
      · simpa using hu
      · cases hu
theorem owns_mono {w : World} {base base' : Nat} {e : TypeId} {size : Nat} {v : Value} {n : Nat} {xs : List Value} (h : w.ownsRow base e size v n xs) (hb : base' ≤ base) : w.ownsRow base' e size v n xs := by
  obtain ⟨h1, h2 | ⟨g, cap, cur, h3, h4, h5⟩⟩ := h
  · exact ⟨h1, .inl h2⟩
  · exact ⟨h1, .inr ⟨g, cap, cur, h3, Nat.le_trans hb h4, h5⟩⟩
theorem take_next (os : List MI) {k : Nat} (h : k < os.length) : os.take (k + 1) = os.take k ++ [os.getD k default] := by
  rw [List.take_succ_eq_append_getElem h]
  simp [List.getD, List.getElem?_eq_getElem h]
theorem own_words {w : World} {base : Nat} {v : Value} {l : List Int} (h : w.ownsRow base 48 1 v l.length (cellsU l)) : ∃ o cap, v = .slice o l.length cap ∧
    ∀ k, k < l.length → ∃ g, o = some ⟨g, 0, none⟩ ∧ base ≤ g ∧ w.cell? ⟨g, k, none⟩ = some (.int .u64 (l.getD k 0)) := by
  obtain ⟨o, cap, rfl, hc, hf⟩ := owns_form h
  refine ⟨o, cap, rfl, fun k hk => ?_⟩
  rcases hf with ⟨e, _⟩ | ⟨g, rfl, hb, _, hx⟩
  · omega
  · exact ⟨_, rfl, hb, hx _ _ (by simp [cellsU, List.getD, List.getElem?_eq_getElem hk])⟩
theorem Laid.below {w wx : World} (h : Laid w) (hb : Below w.heap.size w wx) : Laid wx := h.grow ⟨hb.size, fun k hk => hb.block k hk⟩
end Go.Proofs.YtbkojaiecgdodaaDoor
