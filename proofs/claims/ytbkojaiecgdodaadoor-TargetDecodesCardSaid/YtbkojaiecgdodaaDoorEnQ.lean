/- A part of the proof of TabG. -/
import Derived.Test.YtbkojaiecgdodaaDoorTvW
import Derived.WalkKit
import Derived.WalkSpells
import Derived.WalkLawsBesides
import Derived.LoopTactic
import Derived.Lib.Hide
import Derived.OwnWalk
import Derived.Deep.AppendLies
import Derived.Deep.RegionHeld3
import Derived.Deep.QuietTactic
import Derived.BigQuiet
import Derived.Maps.AppendAt
import Derived.Laws.AppendOwnNone
section
set_option linter.unusedVariables false
set_option linter.unusedSimpArgs false
namespace Go.Proofs.YtbkojaiecgdodaaDoor
open Go Go.Ev Go.RowKit
theorem info48 : (Tryd.prog.info? 48).map (fun i => (i.zero, i.size, i.bytes)) = some (some (.int .u64 0), 1, 8) := by kernel_rfl
theorem info26 : (Tryd.prog.info? 26).map (fun i => (i.zero, i.size, i.bytes)) = some (some (.agg #[.int .i64 0, .int .i64 0, .int .i64 0, .int .i64 0, .int .i64 0]), 5, 40) := by kernel_rfl
theorem add_twice (a : Addr) (i j : Nat) : (a.add i).add j = a.add (i + j) := by
  unfold Addr.add
  by_cases hi : i = 0 <;> by_cases hj : j = 0 <;> simp [hi, hj, Nat.add_assoc]
/-- an instruction -/
structure MI where
  (op d a b m : Int)
instance : Inhabited MI := ⟨⟨0, 0, 0, 0, 0⟩⟩
def MI.fits (x : MI) : Prop := -9223372036854775808 ≤ x.op ∧ x.op ≤ 9223372036854775807 ∧ -9223372036854775808 ≤ x.m ∧ x.m ≤ 9223372036854775807
def MI.ok (x : MI) : Prop := VP x.op x.d x.a x.b x.m
noncomputable instance (x : MI) : Decidable x.ok := Classical.propDecidable _
def MI.val (x : MI) : Value := .agg #[.int .i64 x.op, .int .i64 x.d, .int .i64 x.a, .int .i64 x.b, .int .i64 x.m]
/-- a slice of instructions, nil or not -/
structure Rows5 (w : World) (A : Option Addr) (n c : Nat) (xs : List MI) : Prop where
  len : xs.length = n
  fits : ∀ x ∈ xs, x.fits
  nil : A = none → n = 0 ∧ c = 0
  get : ∀ k, k < n → ∃ B o, A = some ⟨B, o, none⟩ ∧ w.cell? ⟨B, o + k * 5, none⟩ = some (.int .i64 (xs.getD k default).op) ∧ w.cell? ⟨B, o + k * 5 + 1, none⟩ = some (.int .i64 (xs.getD k default).d) ∧ w.cell? ⟨B, o + k * 5 + 2, none⟩ = some (.int .i64 (xs.getD k default).a) ∧ w.cell? ⟨B, o + k * 5 + 3, none⟩ = some (.int .i64 (xs.getD k default).b) ∧ w.cell? ⟨B, o + k * 5 + 4, none⟩ = some (.int .i64 (xs.getD k default).m)
theorem add_none (B o i : Nat) : (⟨B, o, none⟩ : Addr).add i = ⟨B, o + i, none⟩ := by
  unfold Addr.add; by_cases h : i = 0 <;> simp [h]
theorem Rows5.later {w w' : World} {A : Option Addr} {n c : Nat} {xs : List MI} (h : Rows5 w A n c xs) (hb : Below w.heap.size w w') : Rows5 w' A n c xs :=
  ⟨h.len, h.fits, h.nil, fun k hk => by
    obtain ⟨B, o, e, h0, h1, h2, h3, h4⟩ := h.get k hk
    exact ⟨B, o, e, (hb.cell (World.block_lt_of_cell? w _ h0)).trans h0, (hb.cell (World.block_lt_of_cell? w _ h1)).trans h1, (hb.cell (World.block_lt_of_cell? w _ h2)).trans h2, (hb.cell (World.block_lt_of_cell? w _ h3)).trans h3, (hb.cell (World.block_lt_of_cell? w _ h4)).trans h4⟩⟩
def low (x : MI) : Int := x.op + x.d * 256 + x.a * 4096 + x.b * 65536
/-- the words of an instruction -/
def wds (x : MI) : List Int := if x.op = 3 then [low x, x.m % 18446744073709551616] else [low x + x.m % 4294967296 * 4294967296]
def cellsU (l : List Int) : List Value := l.map (Value.int .u64)
def allOk (xs : List MI) : Prop := ∀ x ∈ xs, x.ok
theorem owns_form {w : World} {base e size n : Nat} {v : Value} {xs : List Value} (h : w.ownsRow base e size v n xs) :
    ∃ (o : Option Addr) (cap : Nat), v = .slice o n cap ∧ n ≤ cap ∧ (n = 0 ∧ o = none ∨ ∃ g, o = some ⟨g, 0, none⟩ ∧ base ≤ g ∧ g < w.heap.size ∧ ∀ i u, xs[i]? = some u → w.cell? ⟨g, i, none⟩ = some u) := by
  rcases h with ⟨hl, h⟩
  rcases h with ⟨rfl, rfl⟩ | ⟨g, cap, cur, rfl, hb, hg, hn, hc, hs, hx⟩
  · exact ⟨none, 0, rfl, Nat.le_refl _, .inl ⟨rfl, rfl⟩⟩
  · refine ⟨_, cap, rfl, hn, .inr ⟨g, rfl, hb, ?_, ?_⟩⟩
    · rcases Nat.lt_or_ge g w.heap.size with hlt | hge
      · exact hlt
      · simp [Array.getElem?_eq_none hge] at hg
    · intro i u hu
      rw [cell_of_row w g i cur e (0, 0) hg]
      rw [← hx] at hu
      rw [List.getElem?_take] at hu
      split at hu
      · simpa using hu
      · cases hu
theorem owns_mono {w : World} {base base' : Nat} {e : TypeId} {size : Nat} {v : Value} {n : Nat} {xs : List Value} (h : w.ownsRow base e size v n xs) (hb : base' ≤ base) : w.ownsRow base' e size v n xs := by
  obtain ⟨h1, h2 | ⟨g, cap, cur, h3, h4, h5⟩⟩ := h
  · exact ⟨h1, .inl h2⟩
  · exact ⟨h1, .inr ⟨g, cap, cur, h3, Nat.le_trans hb h4, h5⟩⟩
theorem take_next (os : List MI) {k : Nat} (h : k < os.length) : os.take (k + 1) = os.take k ++ [os.getD k default] := by
  rw [List.take_succ_eq_append_getElem h]
  simp [List.getD, List.getElem?_eq_getElem h]
theorem own_words {w : World} {base : Nat} {v : Value} {l : List Int} (h : w.ownsRow base 48 1 v l.length (cellsU l)) : ∃ o cap, v = .slice o l.length cap ∧
    ∀ k, k < l.length → ∃ g, o = some ⟨g, 0, none⟩ ∧ base ≤ g ∧ w.cell? ⟨g, k, none⟩ = some (.int .u64 (l.getD k 0)) := by
  obtain ⟨o, cap, rfl, hc, hf⟩ := owns_form h
  refine ⟨o, cap, rfl, fun k hk => ?_⟩
  rcases hf with ⟨e, _⟩ | ⟨g, rfl, hb, _, hx⟩
  · omega
  · exact ⟨_, rfl, hb, hx _ _ (by simp [cellsU, List.getD, List.getElem?_eq_getElem hk])⟩
theorem Laid.below {w wx : World} (h : Laid w) (hb : Below w.heap.size w wx) : Laid wx := h.grow ⟨hb.size, fun k hk => hb.block k hk⟩
end Go.Proofs.YtbkojaiecgdodaaDoor
end
section
set_option linter.unusedVariables false
set_option linter.unusedSimpArgs false
namespace Go.Proofs.YtbkojaiecgdodaaDoor
open Go Go.Ev Go.RowKit
theorem or_nat (X K i : Nat) (h : X < 2 ^ i) : X ||| (2 ^ i * K) = X + 2 ^ i * K := by
  rw [Nat.or_comm, ← Nat.two_pow_add_eq_or_of_lt h, Nat.add_comm]
theorem or_low (X K i : Nat) (h : X < 2 ^ i) (hs : X + 2 ^ i * K < 18446744073709551616) : bits .or .u64 (X : Int) ((2 ^ i * K : Nat) : Int) = ((X + 2 ^ i * K : Nat) : Int) := by
  have h1 : (BitVec.ofInt 64 (X : Int)).toNat = X := by rw [BitVec.toNat_ofInt]; omega
  have h2 : (BitVec.ofInt 64 ((2 ^ i * K : Nat) : Int)).toNat = 2 ^ i * K := by rw [BitVec.toNat_ofInt]; omega
  show IntKind.u64.wrap (((BitVec.ofInt 64 (X : Int) ||| BitVec.ofInt 64 ((2 ^ i * K : Nat) : Int)).toNat : Nat) : Int) = _
  rw [BitVec.toNat_or, h1, h2, or_nat _ _ _ h, IntKind.wrap_u64]
  omega
theorem or_lows (x y k : Int) (i : Nat) (p : Nat) (hp : 2 ^ i = p) (hx : 0 ≤ x) (h : x < p) (hk : 0 ≤ k) (hy : y = p * k) (hs : x + y < 18446744073709551616) : bits .or .u64 x y = x + y := by
  obtain ⟨X, rfl⟩ := Int.eq_ofNat_of_zero_le hx
  obtain ⟨K, rfl⟩ := Int.eq_ofNat_of_zero_le hk
  subst hp
  have e : y = ((2 ^ i * K : Nat) : Int) := by rw [hy]; exact (Int.natCast_mul _ _).symm
  rw [e] at hs ⊢
  rw [or_low X K i (Int.ofNat_lt.1 h) (by generalize 2 ^ i * K = Y at hs; omega)]
  exact Int.natCast_add _ _
/-- the fields of a valid one -/
theorem ok_fields {op d a b m : Int} (h : VP op d a b m) : 1 ≤ op ∧ op ≤ 49 ∧ 0 ≤ d ∧ d ≤ 9 ∧ 0 ≤ a ∧ a ≤ 9 ∧ 0 ≤ b ∧ b ≤ 9 := by
  have key : (op ≤ 0 ∨ op = 15 ∨ (30 ≤ op ∧ op ≤ 35) ∨ 50 ≤ op) ∨ (16 ≤ op ∧ op ≤ 29) ∨ (36 ≤ op ∧ op ≤ 49) ∨ op = 1 ∨ op = 2 ∨ op = 3 ∨ op = 4 ∨ op = 5 ∨ op = 6 ∨ op = 7 ∨ op = 8 ∨ op = 9 ∨ op = 10 ∨ op = 11 ∨ op = 12 ∨ op = 13 ∨ op = 14 := by omega
  rcases key with h0 | h0 | h0 | rfl | rfl | rfl | rfl | rfl | rfl | rfl | rfl | rfl | rfl | rfl | rfl | rfl | rfl
  · rw [vp_no h0] at h; exact h.elim
  · rw [vp_bin h0] at h; omega
  · rw [vp_bini h0] at h; omega
  · rw [vp_1] at h; omega
  · rw [vp_2] at h; omega
  · rw [vp_3] at h; omega
  · rw [vp_4] at h; omega
  · rw [vp_5] at h; omega
  · rw [vp_6] at h; omega
  · rw [vp_7] at h; omega
  · rw [vp_8] at h; omega
  · rw [vp_9] at h; omega
  · rw [vp_10] at h; omega
  · rw [vp_11] at h; omega
  · rw [vp_12] at h; omega
  · rw [vp_13] at h; omega
  · rw [vp_14] at h; omega
/-- the first word -/
def lowW (op d a b : Int) : Int := bits .or .u64 (bits .or .u64 (bits .or .u64 (IntKind.u64.wrap op) (IntKind.u64.wrap (IntKind.u64.wrap d * 256))) (IntKind.u64.wrap (IntKind.u64.wrap a * 4096))) (IntKind.u64.wrap (IntKind.u64.wrap b * 65536))
theorem lowW_eq {op d a b m : Int} (h : VP op d a b m) : lowW op d a b = low ⟨op, d, a, b, m⟩ := by
  obtain ⟨h1, h2, h3, h4, h5, h6, h7, h8⟩ := ok_fields h
  simp only [lowW, low]
  simp only [IntKind.wrap_u64]
  have e1 : op % 18446744073709551616 = op := by omega
  have e2 : d % 18446744073709551616 * 256 % 18446744073709551616 = d * 256 := by omega
  have e3 : a % 18446744073709551616 * 4096 % 18446744073709551616 = a * 4096 := by omega
  have e4 : b % 18446744073709551616 * 65536 % 18446744073709551616 = b * 65536 := by omega
  rw [e1, e2, e3, e4, or_lows op (d * 256) d 8 256 (by decide) (by omega) (by omega) h3 (by omega) (by omega),
    or_lows (op + d * 256) (a * 4096) a 12 4096 (by decide) (by omega) (by omega) h5 (by omega) (by omega),
    or_lows (op + d * 256 + a * 4096) (b * 65536) b 16 65536 (by decide) (by omega) (by omega) h7 (by omega) (by omega)]
theorem low_lt {op d a b m : Int} (h : VP op d a b m) : 0 ≤ low ⟨op, d, a, b, m⟩ ∧ low ⟨op, d, a, b, m⟩ < 4294967296 := by
  obtain ⟨h1, h2, h3, h4, h5, h6, h7, h8⟩ := ok_fields h
  simp only [low]; omega
theorem highW {op d a b m : Int} (h : VP op d a b m) : bits .or .u64 (lowW op d a b) (IntKind.u64.wrap (IntKind.u64.wrap m * 4294967296)) = low ⟨op, d, a, b, m⟩ + m % 4294967296 * 4294967296 := by
  obtain ⟨h1, h2⟩ := low_lt h
  rw [lowW_eq h]
  simp only [IntKind.wrap_u64]
  have e : m % 18446744073709551616 * 4294967296 % 18446744073709551616 = m % 4294967296 * 4294967296 := by omega
  rw [e, or_lows _ (m % 4294967296 * 4294967296) (m % 4294967296) 32 4294967296 (by decide) h1 h2 (by omega) (by omega) (by omega)]
/-- the reference's -/
theorem lowR {op d a b m : Int} (h : VP op d a b m) : IntKind.u64.wrap (IntKind.u64.wrap (IntKind.u64.wrap (IntKind.u64.wrap op + IntKind.u64.wrap (IntKind.u64.wrap d * 256)) + IntKind.u64.wrap (IntKind.u64.wrap a * 4096)) + IntKind.u64.wrap (IntKind.u64.wrap b * 65536)) = low ⟨op, d, a, b, m⟩ := by
  obtain ⟨h1, h2, h3, h4, h5, h6, h7, h8⟩ := ok_fields h
  simp only [low]
  simp only [IntKind.wrap_u64]
  omega
theorem highR {op d a b m : Int} (h : VP op d a b m) : IntKind.u64.wrap (low ⟨op, d, a, b, m⟩ + IntKind.u64.wrap (IntKind.u64.wrap m * 4294967296)) = low ⟨op, d, a, b, m⟩ + m % 4294967296 * 4294967296 := by
  obtain ⟨h1, h2⟩ := low_lt h
  simp only [IntKind.wrap_u64]
  omega
end Go.Proofs.YtbkojaiecgdodaaDoor
end
