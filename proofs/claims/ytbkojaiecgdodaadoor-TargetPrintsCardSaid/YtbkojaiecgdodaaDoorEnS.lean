/- A part of the proof of TacG. -/
import Derived.Test.YtbkojaiecgdodaaDoorTvW
import Derived.WalkKit
import Derived.WalkSpells
import Derived.WalkLawsBesides
import Derived.LoopTactic
import Derived.Lib.Hide
import Derived.OwnWalk
import Derived.Deep.AppendLies
import Derived.Deep.RegionHeld3
import Derived.Deep.QuietTactic
import Derived.BigQuiet
import Derived.Maps.AppendAt
import Derived.Laws.AppendOwnNone
section
set_option linter.unusedVariables false
set_option linter.unusedSimpArgs false
namespace Go.Proofs.YtbkojaiecgdodaaDoor
open Go Go.Ev Go.RowKit
theorem info48 : (Tryd.prog.info? 48).map (fun i => (i.zero, i.size, i.bytes)) = some (some (.int .u64 0), 1, 8) := by kernel_rfl
theorem info26 : (Tryd.prog.info? 26).map (fun i => (i.zero, i.size, i.bytes)) = some (some (.agg #[.int .i64 0, .int .i64 0, .int .i64 0, .int .i64 0, .int .i64 0]), 5, 40) := by kernel_rfl
theorem add_twice (a : Addr) (i j : Nat) : (a.add i).add j = a.add (i + j) := by
  unfold Addr.add
  by_cases hi : i = 0 <;> by_cases hj : j = 0 <;> simp [hi, hj, Nat.add_assoc]
/-- an instruction -/
structure MI where
  (op d a b m : Int)
instance : Inhabited MI := ⟨⟨0, 0, 0, 0, 0⟩⟩
def MI.fits (x : MI) : Prop := -9223372036854775808 ≤ x.op ∧ x.op ≤ 9223372036854775807 ∧ -9223372036854775808 ≤ x.m ∧ x.m ≤ 9223372036854775807
def MI.ok (x : MI) : Prop := VP x.op x.d x.a x.b x.m
noncomputable instance (x : MI) : Decidable x.ok := Classical.propDecidable _
def MI.val (x : MI) : Value := .agg #[.int .i64 x.op, .int .i64 x.d, .int .i64 x.a, .int .i64 x.b, .int .i64 x.m]
/-- a slice of instructions, nil or not -/
structure Rows5 (w : World) (A : Option Addr) (n c : Nat) (xs : List MI) : Prop where
  len : xs.length = n
  fits : ∀ x ∈ xs, x.fits
  nil : A = none → n = 0 ∧ c = 0
  get : ∀ k, k < n → ∃ B o, A = some ⟨B, o, none⟩ ∧ w.cell? ⟨B, o + k * 5, none⟩ = some (.int .i64 (xs.getD k default).op) ∧ w.cell? ⟨B, o + k * 5 + 1, none⟩ = some (.int .i64 (xs.getD k default).d) ∧ w.cell? ⟨B, o + k * 5 + 2, none⟩ = some (.int .i64 (xs.getD k default).a) ∧ w.cell? ⟨B, o + k * 5 + 3, none⟩ = some (.int .i64 (xs.getD k default).b) ∧ w.cell? ⟨B, o + k * 5 + 4, none⟩ = some (.int .i64 (xs.getD k default).m)
theorem add_none (B o i : Nat) : (⟨B, o, none⟩ : Addr).add i = ⟨B, o + i, none⟩ := by
  unfold Addr.add; by_cases h : i = 0 <;> simp [h]
theorem Rows5.later {w w' : World} {A : Option Addr} {n c : Nat} {xs : List MI} (h : Rows5 w A n c xs) (hb : Below w.heap.size w w') : Rows5 w' A n c xs :=
  ⟨h.len, h.fits, h.nil, fun k hk => by
    obtain ⟨B, o, e, h0, h1, h2, h3, h4⟩ := h.get k hk
    exact ⟨B, o, e, (hb.cell (World.block_lt_of_cell? w _ h0)).trans h0, (hb.cell (World.block_lt_of_cell? w _ h1)).trans h1, (hb.cell (World.block_lt_of_cell? w _ h2)).trans h2, (hb.cell (World.block_lt_of_cell? w _ h3)).trans h3, (hb.cell (World.block_lt_of_cell? w _ h4)).trans h4⟩⟩
def low (x : MI) : Int := x.op + x.d * 256 + x.a * 4096 + x.b * 65536
/-- the words of an instruction -/
def wds (x : MI) : List Int := if x.op = 3 then [low x, x.m % 18446744073709551616] else [low x + x.m % 4294967296 * 4294967296]
def cellsU (l : List Int) : List Value := l.map (Value.int .u64)
def allOk (xs : List MI) : Prop := ∀ x ∈ xs, x.ok
theorem owns_form {w : World} {base e size n : Nat} {v : Value} {xs : List Value} (h : w.ownsRow base e size v n xs) :
    ∃ (o : Option Addr) (cap : Nat), v = .slice o n cap ∧ n ≤ cap ∧ (n = 0 ∧ o = none ∨ ∃ g, o = some ⟨g, 0, none⟩ ∧ base ≤ g ∧ g < w.heap.size ∧ ∀ i u, xs[i]? = some u → w.cell? ⟨g, i, none⟩ = some u) := by
  rcases h with ⟨hl, h⟩
  rcases h with ⟨rfl, rfl⟩ | ⟨g, cap, cur, rfl, hb, hg, hn, hc, hs, hx⟩
  · exact ⟨none, 0, rfl, Nat.le_refl _, .inl ⟨rfl, rfl⟩⟩
  · refine ⟨_, cap, rfl, hn, .inr ⟨g, rfl, hb, ?_, ?_⟩⟩
    · rcases Nat.lt_or_ge g w.heap.size with hlt | hge
      · exact hlt
      · simp [Array.getElem?_eq_none hge] at hg
    · intro i u hu
      rw [cell_of_row w g i cur e (0, 0) hg]
      rw [← hx] at hu
      rw [List.getElem?_take] at hu
      split at hu
      · simpa using hu
      · cases hu
theorem owns_mono {w : World} {base base' : Nat} {e : TypeId} {size : Nat} {v : Value} {n : Nat} {xs : List Value} (h : w.ownsRow base e size v n xs) (hb : base' ≤ base) : w.ownsRow base' e size v n xs := by
  obtain ⟨h1, h2 | ⟨g, cap, cur, h3, h4, h5⟩⟩ := h
  · exact ⟨h1, .inl h2⟩
  · exact ⟨h1, .inr ⟨g, cap, cur, h3, Nat.le_trans hb h4, h5⟩⟩
theorem take_next (os : List MI) {k : Nat} (h : k < os.length) : os.take (k + 1) = os.take k ++ [os.getD k default] := by
  rw [List.take_succ_eq_append_getElem h]
  simp [List.getD, List.getElem?_eq_getElem h]
theorem own_words {w : World} {base : Nat} {v : Value} {l : List Int} (h : w.ownsRow base 48 1 v l.length (cellsU l)) : ∃ o cap, v = .slice o l.length cap ∧
    ∀ k, k < l.length → ∃ g, o = some ⟨g, 0, none⟩ ∧ base ≤ g ∧ w.cell? ⟨g, k, none⟩ = some (.int .u64 (l.getD k 0)) := by
  obtain ⟨o, cap, rfl, hc, hf⟩ := owns_form h
  refine ⟨o, cap, rfl, fun k hk => ?_⟩
  rcases hf with ⟨e, _⟩ | ⟨g, rfl, hb, _, hx⟩
  · omega
  · exact ⟨_, rfl, hb, hx _ _ (by simp [cellsU, List.getD, List.getElem?_eq_getElem hk])⟩
theorem Laid.below {w wx : World} (h : Laid w) (hb : Below w.heap.size w wx) : Laid wx := h.grow ⟨hb.size, fun k hk => hb.block k hk⟩
end Go.Proofs.YtbkojaiecgdodaaDoor
end
section
set_option linter.unusedVariables false
set_option linter.unusedSimpArgs false
namespace Go.Proofs.YtbkojaiecgdodaaDoor
open Go Go.Ev Go.RowKit
theorem or_nat (X K i : Nat) (h : X < 2 ^ i) : X ||| (2 ^ i * K) = X + 2 ^ i * K := by
  rw [Nat.or_comm, ← Nat.two_pow_add_eq_or_of_lt h, Nat.add_comm]
theorem or_low (X K i : Nat) (h : X < 2 ^ i) (hs : X + 2 ^ i * K < 18446744073709551616) : bits .or .u64 (X : Int) ((2 ^ i * K : Nat) : Int) = ((X + 2 ^ i * K : Nat) : Int) := by
  have h1 : (BitVec.ofInt 64 (X : Int)).toNat = X := by rw [BitVec.toNat_ofInt]; omega
  have h2 : (BitVec.ofInt 64 ((2 ^ i * K : Nat) : Int)).toNat = 2 ^ i * K := by rw [BitVec.toNat_ofInt]; omega
  show IntKind.u64.wrap (((BitVec.ofInt 64 (X : Int) ||| BitVec.ofInt 64 ((2 ^ i * K : Nat) : Int)).toNat : Nat) : Int) = _
  rw [BitVec.toNat_or, h1, h2, or_nat _ _ _ h, IntKind.wrap_u64]
  omega
theorem or_lows (x y k : Int) (i : Nat) (p : Nat) (hp : 2 ^ i = p) (hx : 0 ≤ x) (h : x < p) (hk : 0 ≤ k) (hy : y = p * k) (hs : x + y < 18446744073709551616) : bits .or .u64 x y = x + y := by
  obtain ⟨X, rfl⟩ := Int.eq_ofNat_of_zero_le hx
  obtain ⟨K, rfl⟩ := Int.eq_ofNat_of_zero_le hk
  subst hp
  have e : y = ((2 ^ i * K : Nat) : Int) := by rw [hy]; exact (Int.natCast_mul _ _).symm
  rw [e] at hs ⊢
  rw [or_low X K i (Int.ofNat_lt.1 h) (by generalize 2 ^ i * K = Y at hs; omega)]
  exact Int.natCast_add _ _
/-- the fields of a valid one -/
theorem ok_fields {op d a b m : Int} (h : VP op d a b m) : 1 ≤ op ∧ op ≤ 49 ∧ 0 ≤ d ∧ d ≤ 9 ∧ 0 ≤ a ∧ a ≤ 9 ∧ 0 ≤ b ∧ b ≤ 9 := by
  have key : (op ≤ 0 ∨ op = 15 ∨ (30 ≤ op ∧ op ≤ 35) ∨ 50 ≤ op) ∨ (16 ≤ op ∧ op ≤ 29) ∨ (36 ≤ op ∧ op ≤ 49) ∨ op = 1 ∨ op = 2 ∨ op = 3 ∨ op = 4 ∨ op = 5 ∨ op = 6 ∨ op = 7 ∨ op = 8 ∨ op = 9 ∨ op = 10 ∨ op = 11 ∨ op = 12 ∨ op = 13 ∨ op = 14 := by omega
  rcases key with h0 | h0 | h0 | rfl | rfl | rfl | rfl | rfl | rfl | rfl | rfl | rfl | rfl | rfl | rfl | rfl | rfl
  · rw [vp_no h0] at h; exact h.elim
  · rw [vp_bin h0] at h; omega
  · rw [vp_bini h0] at h; omega
  · rw [vp_1] at h; omega
  · rw [vp_2] at h; omega
  · rw [vp_3] at h; omega
  · rw [vp_4] at h; omega
  · rw [vp_5] at h; omega
  · rw [vp_6] at h; omega
  · rw [vp_7] at h; omega
  · rw [vp_8] at h; omega
  · rw [vp_9] at h; omega
  · rw [vp_10] at h; omega
  · rw [vp_11] at h; omega
  · rw [vp_12] at h; omega
  · rw [vp_13] at h; omega
  · rw [vp_14] at h; omega
/-- the first word -/
def lowW (op d a b : Int) : Int := bits .or .u64 (bits .or .u64 (bits .or .u64 (IntKind.u64.wrap op) (IntKind.u64.wrap (IntKind.u64.wrap d * 256))) (IntKind.u64.wrap (IntKind.u64.wrap a * 4096))) (IntKind.u64.wrap (IntKind.u64.wrap b * 65536))
theorem lowW_eq {op d a b m : Int} (h : VP op d a b m) : lowW op d a b = low ⟨op, d, a, b, m⟩ := by
  obtain ⟨h1, h2, h3, h4, h5, h6, h7, h8⟩ := ok_fields h
  simp only [lowW, low]
  simp only [IntKind.wrap_u64]
  have e1 : op % 18446744073709551616 = op := by omega
  have e2 : d % 18446744073709551616 * 256 % 18446744073709551616 = d * 256 := by omega
  have e3 : a % 18446744073709551616 * 4096 % 18446744073709551616 = a * 4096 := by omega
  have e4 : b % 18446744073709551616 * 65536 % 18446744073709551616 = b * 65536 := by omega
  rw [e1, e2, e3, e4, or_lows op (d * 256) d 8 256 (by decide) (by omega) (by omega) h3 (by omega) (by omega),
    or_lows (op + d * 256) (a * 4096) a 12 4096 (by decide) (by omega) (by omega) h5 (by omega) (by omega),
    or_lows (op + d * 256 + a * 4096) (b * 65536) b 16 65536 (by decide) (by omega) (by omega) h7 (by omega) (by omega)]
theorem low_lt {op d a b m : Int} (h : VP op d a b m) : 0 ≤ low ⟨op, d, a, b, m⟩ ∧ low ⟨op, d, a, b, m⟩ < 4294967296 := by
  obtain ⟨h1, h2, h3, h4, h5, h6, h7, h8⟩ := ok_fields h
  simp only [low]; omega
theorem highW {op d a b m : Int} (h : VP op d a b m) : bits .or .u64 (lowW op d a b) (IntKind.u64.wrap (IntKind.u64.wrap m * 4294967296)) = low ⟨op, d, a, b, m⟩ + m % 4294967296 * 4294967296 := by
  obtain ⟨h1, h2⟩ := low_lt h
  rw [lowW_eq h]
  simp only [IntKind.wrap_u64]
  have e : m % 18446744073709551616 * 4294967296 % 18446744073709551616 = m % 4294967296 * 4294967296 := by omega
  rw [e, or_lows _ (m % 4294967296 * 4294967296) (m % 4294967296) 32 4294967296 (by decide) h1 h2 (by omega) (by omega) (by omega)]
/-- the reference's -/
theorem lowR {op d a b m : Int} (h : VP op d a b m) : IntKind.u64.wrap (IntKind.u64.wrap (IntKind.u64.wrap (IntKind.u64.wrap op + IntKind.u64.wrap (IntKind.u64.wrap d * 256)) + IntKind.u64.wrap (IntKind.u64.wrap a * 4096)) + IntKind.u64.wrap (IntKind.u64.wrap b * 65536)) = low ⟨op, d, a, b, m⟩ := by
  obtain ⟨h1, h2, h3, h4, h5, h6, h7, h8⟩ := ok_fields h
  simp only [low]
  simp only [IntKind.wrap_u64]
  omega
theorem highR {op d a b m : Int} (h : VP op d a b m) : IntKind.u64.wrap (low ⟨op, d, a, b, m⟩ + IntKind.u64.wrap (IntKind.u64.wrap m * 4294967296)) = low ⟨op, d, a, b, m⟩ + m % 4294967296 * 4294967296 := by
  obtain ⟨h1, h2⟩ := low_lt h
  simp only [IntKind.wrap_u64]
  omega
end Go.Proofs.YtbkojaiecgdodaaDoor
end
section
set_option linter.unusedVariables false
set_option linter.unusedSimpArgs false
namespace Go.Proofs.YtbkojaiecgdodaaDoor
open Go Go.Ev Go.RowKit
set_option maxRecDepth 100000 in
set_option maxHeartbeats 2000000 in
theorem words_prog1 {w : World} {base n : Nat} {v : Value} {cs : List Value} {op d a b m : Int} (h3 : ¬ op = 3) (hbase : base ≤ w.heap.size) (hn : n ≤ 1000) (hown : w.ownsRow base 48 1 v n cs) :
    Calls Tryd.prog 27 #[v, .agg #[.int .i64 op, .int .i64 d, .int .i64 a, .int .i64 b, .int .i64 m]] w fun e w' => ∃ v', e = .returned v' ∧ w'.ownsRow base 48 1 v' (n + 1) (cs ++ [.int .u64 (bits .or .u64 (lowW op d a b) (IntKind.u64.wrap (IntKind.u64.wrap m * 4294967296)))]) ∧ Below base w w' := by
  obtain ⟨i0, hi, hz0, hz1, hz2⟩ := info_parts info48
  have h3' : (op == 3) = false := by simpa using h3
  have HO := Lib.hid hown
  clear hown
  go_enter Tryd.func27, Tryd.ntmps27
  go_wp2_with (at_builtin; refine wpList_append_lies _ rfl (.tmp 34) (.tmp 41) 27 rfl base 48 i0 _ 1 8 Tryd.underlying27 hi hz0 hz1 hz2 rfl (by omega) _ _ _ rfl ((HO.out.alloc _).alloc _) ⟨_, 0, none⟩ 1 1 [_] rfl rfl (World.news_of_block (by have := heap_alloc_new (w.alloc (.cells #[.int .i64 op, .int .i64 d, .int .i64 a, .int .i64 b, .int .i64 m] 26)) (.cells #[.int .u64 (bits .or .u64 (lowW op d a b) (IntKind.u64.wrap (IntKind.u64.wrap m * 4294967296)))] 48); simpa [lowW] using this)) (by intro u hu; simp at hu; subst hu; rfl) (by omega) (by unfold maxLen; omega) (by omega) (by simp; omega) _ rfl ?_)
  intro g cap w1 hown1 hgrow1 hat1 hlt1
  have HB := Lib.hid ((((Below.refl base w).alloc hbase _).alloc (by simp; omega) _).grown hgrow1 (by simp; omega) (fun j hj => (HO.out.lt j hj).1))
  have HN := Lib.hid hown1
  clear hown1 hgrow1 hat1 hlt1
  go_wp2_with fail
  exact bodyPost_ret (by simp [results, Tryd.results27, go_sem]) rfl ⟨_, rfl, HN.out, HB.out⟩
set_option maxRecDepth 100000 in
set_option maxHeartbeats 2000000 in
theorem words_prog2 {w : World} {base n : Nat} {v : Value} {cs : List Value} {op d a b m : Int} (h3 : op = 3) (hbase : base ≤ w.heap.size) (hn : n ≤ 1000) (hown : w.ownsRow base 48 1 v n cs) :
    Calls Tryd.prog 27 #[v, .agg #[.int .i64 op, .int .i64 d, .int .i64 a, .int .i64 b, .int .i64 m]] w fun e w' => ∃ v', e = .returned v' ∧ w'.ownsRow base 48 1 v' (n + 2) (cs ++ [.int .u64 (lowW op d a b), .int .u64 (IntKind.u64.wrap m)]) ∧ Below base w w' := by
  obtain ⟨i0, hi, hz0, hz1, hz2⟩ := info_parts info48
  have h3' : (op == 3) = true := by simpa using h3
  clear h3
  have HO := Lib.hid hown
  clear hown
  go_enter Tryd.func27, Tryd.ntmps27
  go_wp2_with (at_builtin; refine wpList_append_lies _ rfl (.tmp 27) (.tmp 32) 27 rfl base 48 i0 _ 1 8 Tryd.underlying27 hi hz0 hz1 hz2 rfl (by omega) _ _ _ rfl ((HO.out.alloc _).alloc _) ⟨_, 0, none⟩ 2 2 [_, _] rfl rfl (World.news_of_block (by have := heap_alloc_new (w.alloc (.cells #[.int .i64 op, .int .i64 d, .int .i64 a, .int .i64 b, .int .i64 m] 26)) (.cells #[.int .u64 (lowW op d a b), .int .u64 (IntKind.u64.wrap m)] 48); simpa [lowW] using this)) (by intro u hu; simp at hu; rcases hu with rfl | rfl <;> rfl) (by omega) (by unfold maxLen; omega) (by omega) (by simp; omega) _ rfl ?_)
  intro g cap w1 hown1 hgrow1 hat1 hlt1
  have HB := Lib.hid ((((Below.refl base w).alloc hbase _).alloc (by simp; omega) _).grown hgrow1 (by simp; omega) (fun j hj => (HO.out.lt j hj).1))
  have HN := Lib.hid hown1
  clear hown1 hgrow1 hat1 hlt1
  go_wp2_with fail
  exact bodyPost_ret (by simp [results, Tryd.results27, go_sem]) rfl ⟨_, rfl, HN.out, HB.out⟩
theorem words_prog {w : World} {base n : Nat} {v : Value} {cs : List Value} (x : MI) (hx : x.ok) (hbase : base ≤ w.heap.size) (hn : n ≤ 1000) (hown : w.ownsRow base 48 1 v n cs) :
    Calls Tryd.prog 27 #[v, .agg #[.int .i64 x.op, .int .i64 x.d, .int .i64 x.a, .int .i64 x.b, .int .i64 x.m]] w fun e w' => ∃ v', e = .returned v' ∧ w'.ownsRow base 48 1 v' (n + (wds x).length) (cs ++ cellsU (wds x)) ∧ Below base w w' := by
  by_cases h3 : x.op = 3
  · have e : wds x = [lowW x.op x.d x.a x.b, IntKind.u64.wrap x.m] := by
      unfold wds; rw [if_pos h3, lowW_eq hx, IntKind.wrap_u64]
    rw [e]
    exact words_prog2 h3 hbase hn hown
  · have e : wds x = [bits .or .u64 (lowW x.op x.d x.a x.b) (IntKind.u64.wrap (IntKind.u64.wrap x.m * 4294967296))] := by
      unfold wds; rw [if_neg h3, highW hx]
    rw [e]
    exact words_prog1 h3 hbase hn hown
set_option maxRecDepth 100000 in
set_option maxHeartbeats 2000000 in
theorem words_ref1 {w : World} {op d a b m : Int} (h3 : ¬ op = 3) (hv : VP op d a b m) :
    Calls Tryd.prog 28 #[.agg #[.int .i64 op, .int .i64 d, .int .i64 a, .int .i64 b, .int .i64 m]] w fun e w' => ∃ v', e = .returned v' ∧ w'.ownsRow w.heap.size 48 1 v' 1 [.int .u64 (low ⟨op, d, a, b, m⟩ + m % 4294967296 * 4294967296)] ∧ Below w.heap.size w w' := by
  have h3' : (op == 3) = false := by simpa using h3
  have e1 := lowR hv
  have e2 := highR hv
  generalize low ⟨op, d, a, b, m⟩ = L at *
  go_enter Tryd.func28, Tryd.ntmps28
  go_wp2_with fail
  refine bodyPost_ret (by simp [results, Tryd.results28, go_sem]) rfl ⟨_, rfl, ⟨rfl, .inr ⟨w.heap.size + 1, 1, #[_], rfl, by omega, ?_, by omega, by unfold maxLen; omega, rfl, rfl⟩⟩, ((Below.refl _ _).alloc (Nat.le_refl _) _).alloc (by simp) _⟩
  have := heap_alloc_new (w.alloc (.cells #[.int .i64 op, .int .i64 d, .int .i64 a, .int .i64 b, .int .i64 m] 26)) (.cells #[.int .u64 (L + m % 4294967296 * 4294967296)] 48)
  simpa using this
set_option maxRecDepth 100000 in
set_option maxHeartbeats 2000000 in
theorem words_ref2 {w : World} {op d a b m : Int} (h3 : op = 3) (hv : VP op d a b m) :
    Calls Tryd.prog 28 #[.agg #[.int .i64 op, .int .i64 d, .int .i64 a, .int .i64 b, .int .i64 m]] w fun e w' => ∃ v', e = .returned v' ∧ w'.ownsRow w.heap.size 48 1 v' 2 [.int .u64 (low ⟨op, d, a, b, m⟩), .int .u64 (m % 18446744073709551616)] ∧ Below w.heap.size w w' := by
  have h3' : (op == 3) = true := by simpa using h3
  clear h3
  have e1 := lowR hv
  have e2 := IntKind.wrap_u64 m
  generalize low ⟨op, d, a, b, m⟩ = L at *
  go_enter Tryd.func28, Tryd.ntmps28
  go_wp2_with fail
  refine bodyPost_ret (by simp [results, Tryd.results28, go_sem]) rfl ⟨_, rfl, ⟨rfl, .inr ⟨w.heap.size + 1, 2, #[_, _], rfl, by omega, ?_, by omega, by unfold maxLen; omega, rfl, rfl⟩⟩, ((Below.refl _ _).alloc (Nat.le_refl _) _).alloc (by simp) _⟩
  have := heap_alloc_new (w.alloc (.cells #[.int .i64 op, .int .i64 d, .int .i64 a, .int .i64 b, .int .i64 m] 26)) (.cells #[.int .u64 L, .int .u64 (m % 18446744073709551616)] 48)
  simpa using this
theorem words_ref {w : World} (x : MI) (hx : x.ok) :
    Calls Tryd.prog 28 #[.agg #[.int .i64 x.op, .int .i64 x.d, .int .i64 x.a, .int .i64 x.b, .int .i64 x.m]] w fun e w' => ∃ v', e = .returned v' ∧ w'.ownsRow w.heap.size 48 1 v' (wds x).length (cellsU (wds x)) ∧ Below w.heap.size w w' := by
  by_cases h3 : x.op = 3
  · have e : wds x = [low x, x.m % 18446744073709551616] := by unfold wds; rw [if_pos h3]
    rw [e]
    exact words_ref2 h3 hx
  · have e : wds x = [low x + x.m % 4294967296 * 4294967296] := by unfold wds; rw [if_neg h3]
    rw [e]
    exact words_ref1 h3 hx
end Go.Proofs.YtbkojaiecgdodaaDoor
end
section
set_option linter.unusedVariables false
set_option linter.unusedSimpArgs false
namespace Go.Proofs.YtbkojaiecgdodaaDoor
open Go Go.Ev Go.RowKit
def wsl (xs : List MI) : List Int := xs.flatMap wds
theorem wds_len (x : MI) : 1 ≤ (wds x).length ∧ (wds x).length ≤ 2 := by unfold wds; split <;> simp
theorem wsl_le (xs : List MI) : (wsl xs).length ≤ 2 * xs.length := by
  induction xs with
  | nil => simp [wsl]
  | cons x l ih => have := (wds_len x).2; simp [wsl] at ih ⊢; omega
theorem wsl_next {xs : List MI} {k : Nat} (h : k < xs.length) : wsl (xs.take (k + 1)) = wsl (xs.take k) ++ wds (xs.getD k default) := by
  rw [take_next xs h]; simp [wsl]
noncomputable instance (xs : List MI) : Decidable (allOk xs) := Classical.propDecidable _
noncomputable def encL (xs : List MI) : List Int := if allOk xs then wsl xs else []
theorem getD_mem {xs : List MI} {k : Nat} (h : k < xs.length) : xs.getD k default ∈ xs := by
  simp [List.getD, List.getElem?_eq_getElem h]
/-- what Encode answers -/
def EncOut (xs : List MI) (w : World) (e : Ending) (w' : World) : Prop :=
  ∃ v, e = .returned (.tuple #[v, .int .i64 (if allOk xs then 0 else 2)]) ∧ w'.ownsRow w.heap.size 48 1 v (encL xs).length (cellsU (encL xs)) ∧ Below w.heap.size w w'
theorem cellsU_app (a b : List Int) : cellsU (a ++ b) = cellsU a ++ cellsU b := by simp [cellsU]
theorem owns_below {w w' : World} {base e size n : Nat} {v : Value} {cs : List Value} (h : w.ownsRow base e size v n cs) (hb : Below w.heap.size w w') : w'.ownsRow base e size v n cs := by
  obtain ⟨h1, h2 | ⟨g, cap, cur, h3, h4, h5, h6⟩⟩ := h
  · exact ⟨h1, .inl h2⟩
  · refine ⟨h1, .inr ⟨g, cap, cur, h3, h4, (hb.block g ?_).trans h5, h6⟩⟩
    rcases Nat.lt_or_ge g w.heap.size with hlt | hge
    · exact hlt
    · simp [Array.getElem?_eq_none hge] at h5
theorem v9_t {W : World} (hL : Laid W) {x : MI} (hf : x.fits) (hx : x.ok) : Calls Tryd.prog 9 #[.agg #[.int .i64 x.op, .int .i64 x.d, .int .i64 x.a, .int .i64 x.b, .int .i64 x.m]] W (Bo W true) := by
  have h := valid9 (d := x.d) (a := x.a) (b := x.b) hL hf.2.2.1 hf.2.2.2 hf.1 hf.2.1
  have hx : VP x.op x.d x.a x.b x.m := hx
  rwa [decide_eq_true hx] at h
theorem v9_f {W : World} (hL : Laid W) {x : MI} (hf : x.fits) (hx : ¬ x.ok) : Calls Tryd.prog 9 #[.agg #[.int .i64 x.op, .int .i64 x.d, .int .i64 x.a, .int .i64 x.b, .int .i64 x.m]] W (Bo W false) := by
  have h := valid9 (d := x.d) (a := x.a) (b := x.b) hL hf.2.2.1 hf.2.2.2 hf.1 hf.2.1
  have hx : ¬ VP x.op x.d x.a x.b x.m := hx
  rwa [decide_eq_false hx] at h
theorem v10_t {W : World} (hL : Laid W) {x : MI} (hf : x.fits) (hx : x.ok) : Calls Tryd.prog 10 #[.agg #[.int .i64 x.op, .int .i64 x.d, .int .i64 x.a, .int .i64 x.b, .int .i64 x.m]] W (Bo W true) := by
  have h := valid10 (d := x.d) (a := x.a) (b := x.b) hL hf.2.2.1 hf.2.2.2 hf.1 hf.2.1
  have hx : VP x.op x.d x.a x.b x.m := hx
  rwa [decide_eq_true hx] at h
theorem v10_f {W : World} (hL : Laid W) {x : MI} (hf : x.fits) (hx : ¬ x.ok) : Calls Tryd.prog 10 #[.agg #[.int .i64 x.op, .int .i64 x.d, .int .i64 x.a, .int .i64 x.b, .int .i64 x.m]] W (Bo W false) := by
  have h := valid10 (d := x.d) (a := x.a) (b := x.b) hL hf.2.2.1 hf.2.2.2 hf.1 hf.2.1
  have hx : ¬ VP x.op x.d x.a x.b x.m := hx
  rwa [decide_eq_false hx] at h
/-- an instruction in a box of the caller's -/
structure Box5 (w wx : World) (B : Nat) (x : MI) : Prop where
  c0 : wx.cell? ⟨B, 0, none⟩ = some (.int .i64 x.op)
  c1 : wx.cell? ⟨B, 1, none⟩ = some (.int .i64 x.d)
  c2 : wx.cell? ⟨B, 2, none⟩ = some (.int .i64 x.a)
  c3 : wx.cell? ⟨B, 3, none⟩ = some (.int .i64 x.b)
  c4 : wx.cell? ⟨B, 4, none⟩ = some (.int .i64 x.m)
  bl : Below w.heap.size w wx
  sz : B < wx.heap.size
theorem Box5.later {w wx wy : World} {B : Nat} {x : MI} (h : Box5 w wx B x) (hw : w.heap.size ≤ wx.heap.size) (hb : Below wx.heap.size wx wy) : Box5 w wy B x :=
  ⟨(hb.cell (p := ⟨B, 0, none⟩) h.sz).trans h.c0, (hb.cell (p := ⟨B, 1, none⟩) h.sz).trans h.c1, (hb.cell (p := ⟨B, 2, none⟩) h.sz).trans h.c2, (hb.cell (p := ⟨B, 3, none⟩) h.sz).trans h.c3, (hb.cell (p := ⟨B, 4, none⟩) h.sz).trans h.c4, h.bl.trans (hb.mono hw), Nat.lt_of_lt_of_le h.sz hb.size⟩
theorem encL_t {xs : List MI} (h : allOk xs) : encL xs = wsl xs := if_pos h
theorem encL_f {xs : List MI} (h : ¬ allOk xs) : encL xs = [] := if_neg h
theorem allOk_of {xs : List MI} (h : ∀ j, j < xs.length → (xs.getD j default).ok) : allOk xs := by
  intro x hx
  obtain ⟨j, hj, e⟩ := List.getElem_of_mem hx
  have := h j hj
  simpa [List.getD, List.getElem?_eq_getElem hj, e] using this
set_option maxRecDepth 100000 in
set_option maxHeartbeats 4000000 in
theorem enc_prog {A : Option Addr} {n c : Nat} {xs : List MI} {w : World} (hL : Laid w) (hO : Rows5 w A n c xs) (hn : n ≤ 300) :
    Calls Tryd.prog 11 #[.slice A n c] w (EncOut xs w) := by
  have HO := Lib.hid hO
  have HL := Lib.hid hL
  clear hO hL
  go_enter Tryd.func11, Tryd.ntmps11
  go_wp2_with fail
  go_loopw [4, 9] (fun v i wr => ∃ k : Nat, i = .int .i64 k ∧ k ≤ n ∧ Below w.heap.size w wr ∧ wr.ownsRow w.heap.size 48 1 v (wsl (xs.take k)).length (cellsU (wsl (xs.take k))) ∧ ∀ j, j < k → (xs.getD j default).ok) (fun _ i _ => (n - intOf i).toNat)
  case atStart => exact ⟨0, rfl, Nat.zero_le _, Below.refl _ _, World.ownsRow_nil _ _ _ _, fun j hj => absurd hj (Nat.not_lt_zero _)⟩
  case round =>
    obtain ⟨k, rfl, hk, hb, hown, hall⟩ := hrel
    by_cases hlt : k < n
    · obtain ⟨B, o, rfl, hc0, hc1, hc2, hc3, hc4⟩ := (HO.out.later hb).get k hlt
      have hfit := HO.out.fits _ (getD_mem (by rw [HO.out.len]; exact hlt))
      have hnext := Lib.hid (wsl_next (xs := xs) (k := k) (by rw [HO.out.len]; exact hlt))
      have hxm := Lib.hid (getD_mem (xs := xs) (k := k) (by rw [HO.out.len]; exact hlt))
      have hle := wsl_le (xs.take k)
      have hle2 : (xs.take k).length ≤ k := by rw [List.length_take]; omega
      have HB := Lib.hid hb
      have HN := Lib.hid hown
      have HA := Lib.hid hall
      clear hb hown hall
      generalize hx : xs.getD k default = x at *
      have hadd := add_none B o (k * 5)
      have hBX := Lib.hid (show Box5 w (wr.alloc (.cells #[.int .i64 x.op, .int .i64 x.d, .int .i64 x.a, .int .i64 x.b, .int .i64 x.m] 26)) wr.heap.size x from ⟨by go_simp, by go_simp, by go_simp, by go_simp, by go_simp, HB.out.alloc HB.out.size _, by simp⟩)
      by_cases hok : x.ok
      · go_wp2_with fail
        have HN0 := Lib.hid (HN.out.alloc (.cells #[.int .i64 x.op, .int .i64 x.d, .int .i64 x.a, .int .i64 x.b, .int .i64 x.m] 26))
        generalize wr.alloc (.cells #[.int .i64 x.op, .int .i64 x.d, .int .i64 x.a, .int .i64 x.b, .int .i64 x.m] 26) = W1 at *
        generalize wr.heap.size = b1 at *
        refine (v9_t (HL.out.below hBX.out.bl) hfit hok).mono ?_
        rintro e w2 ⟨rfl, hb2⟩
        have HX2 := hBX.out.later hBX.out.bl.size hb2
        obtain ⟨C0, C1, C2, C3, C4, hB2, hS2⟩ := HX2
        have HN2 := Lib.hid (owns_below HN0.out hb2)
        have HB2 := Lib.hid hB2
        have hsz := hB2.size
        clear hb2 hB2 hc0 hc1 hc2 hc3 hc4 HN0 HN hBX
        go_wp2_with fail
        refine (words_prog x hok hsz (by omega) HN2.out).mono ?_
        rintro e w3 ⟨v', rfl, hown3, hb3⟩
        have HB3 := Lib.hid (HB2.out.trans hb3)
        have HN3 := Lib.hid hown3
        clear hown3 hb3 C0 C1 C2 C3 C4
        go_wp2_with fail
        go_roundw
        case rel => exact ⟨k + 1, by go_num, by omega, HB3.out, by rw [hnext.out, cellsU_app, List.length_append]; exact HN3.out, fun j hj => by
          rcases Nat.lt_or_ge j k with h | h
          · exact HA.out j h
          · obtain rfl : j = k := by omega
            rw [hx]; exact hok⟩
        case measure => simp [intOf]; omega
      · go_wp2_with fail
        generalize wr.alloc (.cells #[.int .i64 x.op, .int .i64 x.d, .int .i64 x.a, .int .i64 x.b, .int .i64 x.m] 26) = W1 at *
        refine (v9_f (HL.out.below hBX.out.bl) hfit hok).mono ?_
        rintro e w2 ⟨rfl, hb2⟩
        have HB2 := Lib.hid (hBX.out.bl.trans (hb2.mono hBX.out.bl.size))
        have hno : ¬ allOk xs := fun h => hok (h x hxm.out)
        clear hb2
        go_wp2_with fail
        refine bodyPost_ret (v := .tuple #[.slice none 0 0, .int .i64 2]) (by simp [results, Tryd.results11, go_sem]) rfl ⟨.slice none 0 0, by rw [if_neg hno], ?_, HB2.out⟩
        rw [encL_f hno]
        exact World.ownsRow_nil _ _ _ _
    · obtain rfl : k = n := by omega
      have hall' : allOk xs := allOk_of fun j hj => hall j (by rw [HO.out.len] at hj; exact hj)
      have e : xs.take k = xs := by rw [← HO.out.len, List.take_length]
      rw [e] at hown
      have hle := wsl_le xs
      have hlen := HO.out.len
      have HB := Lib.hid hb
      have HN := Lib.hid hown
      obtain ⟨o, cap, rfl, hR⟩ := own_words hown
      clear hb hown hall hR
      have h2 : (wsl xs).length ≤ 600 := by omega
      generalize hq : wsl xs = q at *
      go_wp2_with fail
      refine bodyPost_ret (v := .tuple #[.slice o q.length cap, .int .i64 0]) (by simp [results, Tryd.results11, go_sem]) rfl ⟨_, by rw [if_pos hall'], ?_, HB.out⟩
      rw [encL_t hall', hq]
      exact HN.out
end Go.Proofs.YtbkojaiecgdodaaDoor
end
section
set_option linter.unusedVariables false
set_option linter.unusedSimpArgs false
namespace Go.Proofs.YtbkojaiecgdodaaDoor
open Go Go.Ev Go.RowKit
set_option maxRecDepth 100000 in
set_option maxHeartbeats 4000000 in
theorem enc_ref {A : Option Addr} {n c : Nat} {xs : List MI} {w : World} (hL : Laid w) (hO : Rows5 w A n c xs) (hn : n ≤ 300) :
    Calls Tryd.prog 12 #[.slice A n c] w (EncOut xs w) := by
  obtain ⟨i0, hi, hz0, hz1, hz2⟩ := info_parts info48
  have HO := Lib.hid hO
  have HL := Lib.hid hL
  clear hO hL
  go_enter Tryd.func12, Tryd.ntmps12
  go_wp2_with fail
  go_loopw [5] (fun i wr => ∃ k : Nat, i = .int .i64 k ∧ k ≤ n ∧ Below w.heap.size w wr ∧ ∀ j, j < k → (xs.getD j default).ok) (fun i _ => (n - intOf i).toNat)
  case atStart => exact ⟨0, rfl, Nat.zero_le _, Below.refl _ _, fun j hj => absurd hj (Nat.not_lt_zero _)⟩
  case round =>
    obtain ⟨k, rfl, hk, hb, hall⟩ := hrel
    by_cases hlt : k < n
    · obtain ⟨B, o, rfl, hc0, hc1, hc2, hc3, hc4⟩ := (HO.out.later hb).get k hlt
      have hfit := HO.out.fits _ (getD_mem (by rw [HO.out.len]; exact hlt))
      have hxm := Lib.hid (getD_mem (xs := xs) (k := k) (by rw [HO.out.len]; exact hlt))
      have HB := Lib.hid hb
      have HA := Lib.hid hall
      clear hb hall
      generalize hx : xs.getD k default = x at *
      have hadd := add_none B o (k * 5)
      by_cases hok : x.ok
      · go_wp2_with fail
        refine (v10_t (HL.out.below HB.out) hfit hok).mono ?_
        rintro e w2 ⟨rfl, hb2⟩
        have HB2 := Lib.hid (HB.out.trans (hb2.mono HB.out.size))
        clear hb2 hc0 hc1 hc2 hc3 hc4
        go_wp2_with fail
        go_roundw
        case rel => exact ⟨k + 1, by go_num, by omega, HB2.out, fun j hj => by
          rcases Nat.lt_or_ge j k with h | h
          · exact HA.out j h
          · obtain rfl : j = k := by omega
            rw [hx]; exact hok⟩
        case measure => simp [intOf]; omega
      · go_wp2_with fail
        refine (v10_f (HL.out.below HB.out) hfit hok).mono ?_
        rintro e w2 ⟨rfl, hb2⟩
        have HB2 := Lib.hid (HB.out.trans (hb2.mono HB.out.size))
        have hno : ¬ allOk xs := fun h => hok (h x hxm.out)
        clear hb2
        go_wp2_with fail
        refine bodyPost_ret (v := .tuple #[.slice none 0 0, .int .i64 2]) (by simp [results, Tryd.results12, go_sem]) rfl ⟨.slice none 0 0, by rw [if_neg hno], ?_, HB2.out⟩
        rw [encL_f hno]
        exact World.ownsRow_nil _ _ _ _
    · obtain rfl : n = k := by omega
      have hall' := Lib.hid (show allOk xs from allOk_of fun j hj => hall j (by rw [HO.out.len] at hj; exact hj))
      have HB := Lib.hid hb
      clear hb hall
      go_wp2_with fail
      go_loopw [4, 6] (fun v i wr => ∃ k : Nat, i = .int .i64 k ∧ k ≤ n ∧ Below w.heap.size w wr ∧ wr.ownsRow w.heap.size 48 1 v (wsl (xs.take k)).length (cellsU (wsl (xs.take k)))) (fun _ i _ => (n - intOf i).toNat)
      case atStart => exact ⟨0, rfl, Nat.zero_le _, HB.out, World.ownsRow_nil _ _ _ _⟩
      case round =>
        obtain ⟨k, rfl, hk, hb, hown⟩ := hrel
        by_cases hlt : k < n
        · obtain ⟨B, o, rfl, hc0, hc1, hc2, hc3, hc4⟩ := (HO.out.later hb).get k hlt
          have hnext := Lib.hid (wsl_next (xs := xs) (k := k) (by rw [HO.out.len]; exact hlt))
          have hok := hall'.out _ (getD_mem (xs := xs) (k := k) (by rw [HO.out.len]; exact hlt))
          have hle := wsl_le (xs.take k)
          have hle2 : (xs.take k).length ≤ k := by rw [List.length_take]; omega
          have HB := Lib.hid hb
          have HN := Lib.hid hown
          clear hb hown
          generalize hx : xs.getD k default = x at *
          have hadd := add_none B o (k * 5)
          go_wp2_with fail
          refine (words_ref x hok).mono ?_
          rintro e w3 ⟨v', rfl, hown3, hb3⟩
          have HB3 := Lib.hid (HB.out.trans (hb3.mono HB.out.size))
          have HN3 := Lib.hid (owns_below HN.out hb3)
          obtain ⟨o', cap', rfl, hcap, hf⟩ := owns_form hown3
          have hw := wds_len x
          rcases hf with ⟨h0, _⟩ | ⟨g', rfl, hg1, hg2, hcells⟩
          · omega
          have HC := Lib.hid hcells
          have hcl : (cellsU (wds x)).length = (wds x).length := by simp [cellsU]
          clear hown3 hb3 hcells hc0 hc1 hc2 hc3 hc4 HN
          generalize hq : wds x = q at *
          go_wp2_with (at_builtin; refine wpList_append_lies _ rfl (.tmp 25) (.tmp 30) 27 rfl w.heap.size 48 i0 _ 1 8 Tryd.underlying27 hi hz0 hz1 hz2 rfl (by omega) _ _ _ rfl HN3.out ⟨g', 0, none⟩ q.length cap' (cellsU q) rfl (by rw [hcl, Nat.mul_one]) (fun j u hj => by rw [add_none, Nat.zero_add]; exact HC.out j u hj) (by intro u hu; simp [cellsU] at hu; obtain ⟨z, _, rfl⟩ := hu; rfl) (by omega) (by unfold maxLen; omega) (by omega) HB3.out.size _ rfl ?_)
          intro g cap w4 hown4 hgrow4 hat4 hlt4
          have HB4 := Lib.hid (HB3.out.grown hgrow4 HB3.out.size (fun j hj => (HN3.out.lt j hj).1))
          have HN4 := Lib.hid hown4
          clear hown4 hgrow4 hat4 hlt4
          go_wp2_with fail
          go_roundw
          case rel => exact ⟨k + 1, by go_num, by omega, HB4.out, by rw [hnext.out, cellsU_app, List.length_append]; exact HN4.out⟩
          case measure => simp [intOf]; omega
        · obtain rfl : n = k := by omega
          have e : xs.take n = xs := by rw [← HO.out.len, List.take_length]
          rw [e] at hown
          have hle := wsl_le xs
          have hlen := HO.out.len
          have HB := Lib.hid hb
          have HN := Lib.hid hown
          obtain ⟨o, cap, rfl, hR⟩ := own_words hown
          clear hb hown hR
          have h2 : (wsl xs).length ≤ 600 := by omega
          generalize hq : wsl xs = q at *
          go_wp2_with fail
          refine bodyPost_ret (v := .tuple #[.slice o q.length cap, .int .i64 0]) (by simp [results, Tryd.results12, go_sem]) rfl ⟨_, by rw [if_pos hall'.out], ?_, HB.out⟩
          rw [encL_t hall'.out, hq]
          exact HN.out
end Go.Proofs.YtbkojaiecgdodaaDoor
end
section
set_option linter.unusedVariables false
set_option linter.unusedSimpArgs false
namespace Go.Proofs.YtbkojaiecgdodaaDoor
open Go Go.Ev Go.RowKit
set_option maxRecDepth 100000 in
set_option maxHeartbeats 4000000 in
theorem same_true {o1 o2 : Option Addr} {c1 c2 : Nat} {l : List Int} {w : World} (hm : l.length ≤ 600)
    (h1 : ∀ k, k < l.length → ∃ g, o1 = some ⟨g, 0, none⟩ ∧ w.cell? ⟨g, k, none⟩ = some (.int .u64 (l.getD k 0)))
    (h2 : ∀ k, k < l.length → ∃ g, o2 = some ⟨g, 0, none⟩ ∧ w.cell? ⟨g, k, none⟩ = some (.int .u64 (l.getD k 0))) :
    Calls Tryd.prog 13 #[.slice o1 l.length c1, .slice o2 l.length c2] w (Yes w) := by
  have HR3 := Lib.hid h1
  have HR2 := Lib.hid h2
  clear h1 h2
  go_enter Tryd.func13, Tryd.ntmps13
  go_wp2_with fail
  go_loopw [5] (fun i wr => ∃ k : Nat, i = .int .i64 k ∧ k ≤ l.length ∧ Below w.heap.size w wr) (fun i _ => (l.length - intOf i).toNat)
  case atStart => exact ⟨0, rfl, Nat.zero_le _, Below.refl _ _⟩
  case round =>
    obtain ⟨k, rfl, hk, hb⟩ := hrel
    by_cases hlt : k < l.length
    · obtain ⟨g1, rfl, d1⟩ := HR3.out k hlt
      obtain ⟨g2, rfl, d2⟩ := HR2.out k hlt
      have e1 := (hb.cell (World.block_lt_of_cell? _ _ d1)).trans d1
      have e2 := (hb.cell (World.block_lt_of_cell? _ _ d2)).trans d2
      have HB2 := Lib.hid hb
      clear d1 d2 hb
      generalize l.getD k 0 = r at *
      go_wp2_with fail
      go_region
      go_wp2_with fail
      go_roundw
      case rel => exact ⟨k + 1, by go_num, by omega, HB2.out.drew⟩
      case measure => simp [intOf]; omega
    · obtain rfl : k = l.length := by omega
      have HB2 := Lib.hid hb
      clear hb
      go_wp2_with fail
      refine bodyPost_ret (v := .bool true) (by simp [results, Tryd.results13, go_sem]) rfl ⟨rfl, HB2.out⟩
end Go.Proofs.YtbkojaiecgdodaaDoor
end
