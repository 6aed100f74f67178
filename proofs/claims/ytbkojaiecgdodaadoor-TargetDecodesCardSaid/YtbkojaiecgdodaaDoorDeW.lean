/- A part of the proof of TabG. -/
import Derived.Test.YtbkojaiecgdodaaDoorEnS
import Derived.ArgAppend
section
set_option linter.unusedVariables false
set_option linter.unusedSimpArgs false
namespace Go.Proofs.YtbkojaiecgdodaaDoor
open Go Go.Ev Go.RowKit
/-- a slice of words, nil or not -/
structure Rows1 (w : World) (A : Option Addr) (n c : Nat) (ws : List Int) : Prop where
  len : ws.length = n
  fits : ∀ k, k < n → 0 ≤ ws.getD k 0 ∧ ws.getD k 0 < 18446744073709551616
  cap : n ≤ c
  get : ∀ k, k < n → ∃ B o, A = some ⟨B, o, none⟩ ∧ w.cell? ⟨B, o + k, none⟩ = some (.int .u64 (ws.getD k 0))
theorem Rows1.later {w w' : World} {A : Option Addr} {n c : Nat} {ws : List Int} (h : Rows1 w A n c ws) (hb : Below w.heap.size w w') : Rows1 w' A n c ws :=
  ⟨h.len, h.fits, h.cap, fun k hk => by
    obtain ⟨B, o, e, h0⟩ := h.get k hk
    exact ⟨B, o, e, (hb.cell (World.block_lt_of_cell? w _ h0)).trans h0⟩⟩
theorem Rows1.at {w : World} {A : Option Addr} {n c : Nat} {ws : List Int} (h : Rows1 w A n c ws) (hn : 0 < n) : ∃ B o, A = some ⟨B, o, none⟩ ∧ B < w.heap.size ∧ ∀ k, k < n → w.cell? ⟨B, o + k, none⟩ = some (.int .u64 (ws.getD k 0)) := by
  obtain ⟨B, o, e, h0⟩ := h.get 0 hn
  refine ⟨B, o, e, World.block_lt_of_cell? w _ h0, fun k hk => ?_⟩
  obtain ⟨B', o', e', h1⟩ := h.get k hk
  rw [e] at e'
  simp at e'
  obtain ⟨rfl, rfl⟩ := e'
  exact h1
theorem cell_a1 {w : World} {p : Addr} {v : Value} (h : w.cell? p = some v) (X : Obj) : (w.alloc X).cell? p = some v := (((Below.refl w.heap.size w).alloc (Nat.le_refl _) X).cell (World.block_lt_of_cell? _ _ h)).trans h
theorem cell_a2 {w : World} {p : Addr} {v : Value} (h : w.cell? p = some v) (X Y : Obj) : ((w.alloc X).alloc Y).cell? p = some v := cell_a1 (cell_a1 h X) Y
def s32 (h : Int) : Int := if h < 2147483648 then h else h - 4294967296
def s64 (v : Int) : Int := if v < 9223372036854775808 then v else v - 18446744073709551616
/-- what a first word says -/
def gxl (W m : Int) : MI := ⟨W % 256, W / 256 % 16, W / 4096 % 16, W / 65536 % 16, m⟩
def gnx (ws : List Int) (at_ : Nat) : MI × Nat :=
  if ws.getD at_ 0 % 256 = 3 ∧ at_ + 1 < ws.length then (gxl (ws.getD at_ 0) (s64 (ws.getD (at_ + 1) 0)), at_ + 2) else (gxl (ws.getD at_ 0) (s32 (ws.getD at_ 0 / 4294967296)), at_ + 1)
end Go.Proofs.YtbkojaiecgdodaaDoor
end
section
set_option linter.unusedVariables false
set_option linter.unusedSimpArgs false
namespace Go.Proofs.YtbkojaiecgdodaaDoor
open Go Go.Ev Go.RowKit
section
variable {w : World} {B o n c at_ : Nat} {W op d a b m : Int}
set_option maxRecDepth 100000 in
set_option maxHeartbeats 2000000 in
theorem guess_c (hlt : at_ < n) (hc : w.cell? ⟨B, o + at_, none⟩ = some (.int .u64 W)) (hn : n ≤ 400)
    (e0 : bits .and .u64 W 255 = op) (w0 : wrap64 op = op) (e1 : bits .and .u64 (W / 256) 15 = d) (w1 : wrap64 d = d) (e2 : bits .and .u64 (W / 4096) 15 = a) (w2 : wrap64 a = a) (e3 : bits .and .u64 (W / 65536) 15 = b) (w3 : wrap64 b = b) (e4 : wrap32 (W / 4294967296) = m) (w4 : wrap64 m = m)
    (h3 : ¬ op = 3) :
    Calls Tryd.prog 29 #[.slice (some ⟨B, o, none⟩) n c, .int .i64 at_] w fun e w' => e = .returned (.tuple #[.agg #[.int .i64 op, .int .i64 d, .int .i64 a, .int .i64 b, .int .i64 m], .int .i64 (at_ + 1)]) ∧ Below w.heap.size w w' := by
  have hadd := add_none B o at_
  have hc1 := cell_a1 hc
  have h3' : (op == 3) = false := by simpa using h3
  go_enter Tryd.func29, Tryd.ntmps29
  go_wp2_with fail
  refine bodyPost_ret (v := .tuple #[.agg #[.int .i64 op, .int .i64 d, .int .i64 a, .int .i64 b, .int .i64 m], .int .i64 (at_ + 1)]) (by simp [results, Tryd.results29, go_sem]) rfl ⟨rfl, ((Below.refl _ _).alloc (Nat.le_refl _) _).alloc (by simp) _⟩
set_option maxRecDepth 100000 in
set_option maxHeartbeats 2000000 in
theorem guess_b (hlt : at_ < n) (hc : w.cell? ⟨B, o + at_, none⟩ = some (.int .u64 W)) (hn : n ≤ 400)
    (e0 : bits .and .u64 W 255 = op) (w0 : wrap64 op = op) (e1 : bits .and .u64 (W / 256) 15 = d) (w1 : wrap64 d = d) (e2 : bits .and .u64 (W / 4096) 15 = a) (w2 : wrap64 a = a) (e3 : bits .and .u64 (W / 65536) 15 = b) (w3 : wrap64 b = b) (e4 : wrap32 (W / 4294967296) = m) (w4 : wrap64 m = m)
    (h3 : op = 3) (hm : ¬ ((at_ : Int) + 1 < n)) :
    Calls Tryd.prog 29 #[.slice (some ⟨B, o, none⟩) n c, .int .i64 at_] w fun e w' => e = .returned (.tuple #[.agg #[.int .i64 op, .int .i64 d, .int .i64 a, .int .i64 b, .int .i64 m], .int .i64 (at_ + 1)]) ∧ Below w.heap.size w w' := by
  have hadd := add_none B o at_
  have hc1 := cell_a1 hc
  have h3' : (op == 3) = true := by simpa using h3
  clear h3
  go_enter Tryd.func29, Tryd.ntmps29
  go_wp2_with fail
  refine bodyPost_ret (v := .tuple #[.agg #[.int .i64 op, .int .i64 d, .int .i64 a, .int .i64 b, .int .i64 m], .int .i64 (at_ + 1)]) (by simp [results, Tryd.results29, go_sem]) rfl ⟨rfl, ((Below.refl _ _).alloc (Nat.le_refl _) _).alloc (by simp) _⟩
set_option maxRecDepth 100000 in
set_option maxHeartbeats 2000000 in
theorem guess_a {V m2 : Int} (hlt : at_ < n) (hc : w.cell? ⟨B, o + at_, none⟩ = some (.int .u64 W)) (hd : w.cell? ⟨B, o + (at_ + 1), none⟩ = some (.int .u64 V)) (hn : n ≤ 400)
    (e0 : bits .and .u64 W 255 = op) (w0 : wrap64 op = op) (e1 : bits .and .u64 (W / 256) 15 = d) (w1 : wrap64 d = d) (e2 : bits .and .u64 (W / 4096) 15 = a) (w2 : wrap64 a = a) (e3 : bits .and .u64 (W / 65536) 15 = b) (w3 : wrap64 b = b) (e4 : wrap32 (W / 4294967296) = m) (w4 : wrap64 m = m)
    (h3 : op = 3) (hm : (at_ : Int) + 1 < n) (e5 : wrap64 V = m2) :
    Calls Tryd.prog 29 #[.slice (some ⟨B, o, none⟩) n c, .int .i64 at_] w fun e w' => e = .returned (.tuple #[.agg #[.int .i64 op, .int .i64 d, .int .i64 a, .int .i64 b, .int .i64 m2], .int .i64 (at_ + 2)]) ∧ Below w.heap.size w w' := by
  have hadd := add_none B o at_
  have hadd2 := add_none B o (at_ + 1)
  have hc1 := cell_a1 hc
  have hd2 := cell_a2 hd
  have h3' : (op == 3) = true := by simpa using h3
  clear h3
  go_enter Tryd.func29, Tryd.ntmps29
  go_wp2_with fail
  refine bodyPost_ret (v := .tuple #[.agg #[.int .i64 op, .int .i64 d, .int .i64 a, .int .i64 b, .int .i64 m2], .int .i64 (at_ + 2)]) (by simp [results, Tryd.results29, go_sem]) rfl ⟨rfl, ((Below.refl _ _).alloc (Nat.le_refl _) _).alloc (by simp) _⟩
end
end Go.Proofs.YtbkojaiecgdodaaDoor
end
section
set_option linter.unusedVariables false
set_option linter.unusedSimpArgs false
namespace Go.Proofs.YtbkojaiecgdodaaDoor
open Go Go.Ev Go.RowKit
theorem and_low (W : Int) (k : Nat) (p : Int) (hp : ((2 ^ k : Nat) : Int) = p) (hk : k ≤ 63) (h0 : 0 ≤ W) (h1 : W < 18446744073709551616) : bits .and .u64 W (p - 1) = W % p := by
  obtain ⟨X, rfl⟩ := Int.eq_ofNat_of_zero_le h0
  subst hp
  have hX : X < 2 ^ 64 := by omega
  have hpos : 0 < 2 ^ k := Nat.two_pow_pos k
  have hle : 2 ^ k ≤ 2 ^ 63 := Nat.pow_le_pow_right (by decide) hk
  have e2 : (((2 ^ k : Nat) : Int) - 1) = ((2 ^ k - 1 : Nat) : Int) := by omega
  rw [e2]
  have h2 : (BitVec.ofInt 64 (X : Int)).toNat = X := by rw [BitVec.toNat_ofInt]; omega
  have h3 : (BitVec.ofInt 64 ((2 ^ k - 1 : Nat) : Int)).toNat = 2 ^ k - 1 := by
    rw [BitVec.toNat_ofInt]
    generalize 2 ^ k = q at *
    omega
  show IntKind.u64.wrap (((BitVec.ofInt 64 (X : Int) &&& BitVec.ofInt 64 ((2 ^ k - 1 : Nat) : Int)).toNat : Nat) : Int) = _
  rw [BitVec.toNat_and, h2, h3, Nat.and_two_pow_sub_one_eq_mod, IntKind.wrap_u64]
  have : X % 2 ^ k ≤ X := Nat.mod_le _ _
  have e : ((X % 2 ^ k : Nat) : Int) = (X : Int) % ((2 ^ k : Nat) : Int) := Int.natCast_emod _ _
  rw [← e]
  generalize X % 2 ^ k = q at *
  omega
theorem and255 {W : Int} (h0 : 0 ≤ W) (h1 : W < 18446744073709551616) : bits .and .u64 W 255 = W % 256 := and_low W 8 256 (by decide) (by decide) h0 h1
theorem and15 {W : Int} (h0 : 0 ≤ W) (h1 : W < 18446744073709551616) : bits .and .u64 W 15 = W % 16 := and_low W 4 16 (by decide) (by decide) h0 h1
/-- a struct of an instruction -/
def vl (x : MI) : Value := .agg #[.int .i64 x.op, .int .i64 x.d, .int .i64 x.a, .int .i64 x.b, .int .i64 x.m]
theorem guess_calls {w : World} {A : Option Addr} {n c at_ : Nat} {ws : List Int} (hO : Rows1 w A n c ws) (hlt : at_ < n) (hn : n ≤ 400) :
    Calls Tryd.prog 29 #[.slice A n c, .int .i64 at_] w fun e w' => e = .returned (.tuple #[vl (gnx ws at_).1, .int .i64 (gnx ws at_).2]) ∧ Below w.heap.size w w' := by
  obtain ⟨B, o, rfl, hB, hget⟩ := hO.at (by omega)
  obtain ⟨l0, u0⟩ := hO.fits at_ hlt
  have hc := hget at_ hlt
  have hlen := hO.len
  generalize hW : ws.getD at_ 0 = W at *
  have e0 := and255 l0 u0
  have e1 := and15 (W := W / 256) (by omega) (by omega)
  have e2 := and15 (W := W / 4096) (by omega) (by omega)
  have e3 := and15 (W := W / 65536) (by omega) (by omega)
  have e4 : wrap32 (W / 4294967296) = s32 (W / 4294967296) := by unfold wrap32 s32; split <;> omega
  have w0 : wrap64 (W % 256) = W % 256 := by unfold wrap64; omega
  have w1 : wrap64 (W / 256 % 16) = W / 256 % 16 := by unfold wrap64; omega
  have w2 : wrap64 (W / 4096 % 16) = W / 4096 % 16 := by unfold wrap64; omega
  have w3 : wrap64 (W / 65536 % 16) = W / 65536 % 16 := by unfold wrap64; omega
  have w4 : wrap64 (s32 (W / 4294967296)) = s32 (W / 4294967296) := by unfold wrap64 s32; split <;> omega
  by_cases h3 : W % 256 = 3
  · by_cases hm : at_ + 1 < n
    · have hd := hget (at_ + 1) hm
      obtain ⟨l1, u1⟩ := hO.fits (at_ + 1) hm
      have e5 : wrap64 (ws.getD (at_ + 1) 0) = s64 (ws.getD (at_ + 1) 0) := by unfold wrap64 s64; split <;> omega
      have e : gnx ws at_ = (gxl W (s64 (ws.getD (at_ + 1) 0)), at_ + 2) := by unfold gnx; rw [hW, if_pos ⟨h3, by omega⟩]
      rw [e]
      exact (guess_a hlt hc hd hn e0 w0 e1 w1 e2 w2 e3 w3 e4 w4 h3 (by omega) e5).mono fun _ _ h => ⟨h.1, h.2⟩
    · have e : gnx ws at_ = (gxl W (s32 (W / 4294967296)), at_ + 1) := by unfold gnx; rw [hW, if_neg (fun h => hm (by have := h.2; omega))]
      rw [e]
      exact (guess_b hlt hc hn e0 w0 e1 w1 e2 w2 e3 w3 e4 w4 h3 (by omega)).mono fun _ _ h => ⟨h.1, h.2⟩
  · have e : gnx ws at_ = (gxl W (s32 (W / 4294967296)), at_ + 1) := by unfold gnx; rw [hW, if_neg (fun h => h3 h.1)]
    rw [e]
    exact (guess_c hlt hc hn e0 w0 e1 w1 e2 w2 e3 w3 e4 w4 h3).mono fun _ _ h => ⟨h.1, h.2⟩
end Go.Proofs.YtbkojaiecgdodaaDoor
end
section
set_option linter.unusedVariables false
set_option linter.unusedSimpArgs false
namespace Go.Proofs.YtbkojaiecgdodaaDoor
open Go Go.Ev Go.RowKit
set_option maxRecDepth 100000 in
set_option maxHeartbeats 4000000 in
theorem equal_words {w : World} {B1 o1 B2 o2 n c1 c2 : Nat} {l1 l2 : List Int} (e1 : l1.length = n) (e2 : l2.length = n) (hn : n ≤ 2)
    (h1 : ∀ k, k < n → w.cell? ⟨B1, o1 + k, none⟩ = some (.int .u64 (l1.getD k 0))) (h2 : ∀ k, k < n → w.cell? ⟨B2, o2 + k, none⟩ = some (.int .u64 (l2.getD k 0))) :
    Calls Tryd.prog 30 #[.slice (some ⟨B1, o1, none⟩) n c1, .slice (some ⟨B2, o2, none⟩) n c2] w (Bo w (decide (l1 = l2))) := by
  have H1 := Lib.hid h1
  have H2 := Lib.hid h2
  clear h1 h2
  go_enter Tryd.func30, Tryd.ntmps30
  go_wp2_with fail
  go_loopw [13] (fun i wr => ∃ k : Nat, i = .int .i64 k ∧ k ≤ n ∧ Below w.heap.size w wr ∧ ∀ j, j < k → l1.getD j 0 = l2.getD j 0) (fun i _ => (n - intOf i).toNat)
  case atStart => exact ⟨0, rfl, Nat.zero_le _, Below.refl _ _, fun j hj => absurd hj (Nat.not_lt_zero _)⟩
  case round =>
    obtain ⟨k, rfl, hk, hb, hall⟩ := hrel
    by_cases hlt : k < n
    · have d1 := H1.out k hlt
      have d2 := H2.out k hlt
      have f1 := (hb.cell (World.block_lt_of_cell? _ _ d1)).trans d1
      have f2 := (hb.cell (World.block_lt_of_cell? _ _ d2)).trans d2
      have ha1 := add_none B1 o1 k
      have ha2 := add_none B2 o2 k
      have HB2 := Lib.hid hb
      have HA := Lib.hid hall
      clear d1 d2 hb hall
      by_cases hq : l1.getD k 0 = l2.getD k 0
      · rw [← hq] at f2
        generalize hr : l1.getD k 0 = r at *
        go_wp2_with fail
        go_region
        go_wp2_with fail
        go_roundw
        case rel => exact ⟨k + 1, by go_num, by omega, HB2.out.drew, fun j hj => by
          rcases Nat.lt_or_ge j k with h | h
          · exact HA.out j h
          · obtain rfl : j = k := by omega
            rw [hr]; exact hq⟩
        case measure => simp [intOf]; omega
      · have hne : ¬ l1 = l2 := fun h => hq (by rw [h])
        have hq' : (l1.getD k 0 == l2.getD k 0) = false := by simpa using hq
        rw [decide_eq_false hne]
        generalize l1.getD k 0 = r at *
        generalize l2.getD k 0 = s at *
        go_wp2_with fail
        go_region
        go_wp2_with fail
        refine bodyPost_ret (v := .bool false) (by simp [results, Tryd.results30, go_sem]) rfl ⟨rfl, HB2.out.drew⟩
    · obtain rfl : n = k := by omega
      have heq : l1 = l2 := List.ext_getElem (by omega) fun j h1 h2 => by
        have := hall j (by omega)
        simpa [List.getD, List.getElem?_eq_getElem h1, List.getElem?_eq_getElem h2] using this
      have HB2 := Lib.hid hb
      clear hb hall
      go_wp2_with fail
      refine bodyPost_ret (v := .bool true) (by simp [results, Tryd.results30, go_sem]) rfl ⟨by rw [decide_eq_true heq], HB2.out⟩
set_option maxRecDepth 100000 in
set_option maxHeartbeats 4000000 in
theorem equal_len {w : World} {p1 p2 : Option Addr} {n m c1 c2 : Nat} (h : ¬ n = m) :
    Calls Tryd.prog 30 #[.slice p1 n c1, .slice p2 m c2] w (Bo w false) := by
  have h' : ¬ (n : Int) = m := by omega
  go_enter Tryd.func30, Tryd.ntmps30
  go_wp2_with fail
  refine bodyPost_ret (v := .bool false) (by simp [results, Tryd.results30, go_sem]) rfl ⟨rfl, Below.refl _ _⟩
end Go.Proofs.YtbkojaiecgdodaaDoor
end
section
set_option linter.unusedVariables false
set_option linter.unusedSimpArgs false
namespace Go.Proofs.YtbkojaiecgdodaaDoor
open Go Go.Ev Go.RowKit
section
variable {w W : World} {B t : Nat} {z0 z1 : Value}
theorem blk_lt {o : Obj} (hB : w.heap[B]? = some o) : B < w.heap.size := by
  rcases Nat.lt_or_ge B w.heap.size with h | h
  · exact h
  · simp [Array.getElem?_eq_none h] at hB
theorem two_some (hB : W.heap[B]? = some (.cells #[z0, z1] t (0, 0))) (j : Nat) (hj : j < 2) : (W.cell? ⟨B, j, none⟩).isSome = true ∧ W.frozen? ⟨B, j, none⟩ = false := by
  have h : j = 0 ∨ j = 1 := by omega
  rcases h with rfl | rfl <;> simp [World.cell?, World.frozen?, hB]
theorem two_set (hB : W.heap[B]? = some (.cells #[z0, z1] t (0, 0))) (vs : List Value) (hl : vs.length ≤ 2) (j : Nat) (hj : j < vs.length) : (W.setCells B 0 vs).cell? ⟨B, j, none⟩ = some vs[j] := by
  have := World.cell?_setCells_in B vs 0 W (fun i hi => by rw [Nat.zero_add]; exact (two_some hB i (by omega)).1) j hj
  rwa [Nat.zero_add] at this
theorem below_set {w0 : World} (h : Below B w0 W) (vs : List Value) (k : Nat) : Below B w0 (W.setCells B k vs) := by
  letI := noDen
  exact ⟨((setCells_rest B vs k W).1).trans h.os, ((setCells_rest B vs k W).2.1).trans h.tape, ((setCells_rest B vs k W).2.2).trans h.output, by rw [setCells_size]; exact h.size, fun i hi => (setCells_heap B vs k W i (by omega)).trans (h.block i hi)⟩
set_option maxRecDepth 100000 in
set_option maxHeartbeats 2000000 in
theorem words_arr1 {op d a b m : Int} (h3 : ¬ op = 3) (hB : w.heap[B]? = some (.cells #[z0, z1] t (0, 0))) :
    Calls Tryd.prog 27 #[.slice (some ⟨B, 0, none⟩) 0 2, .agg #[.int .i64 op, .int .i64 d, .int .i64 a, .int .i64 b, .int .i64 m]] w fun e w' => e = .returned (.slice (some ⟨B, 0, none⟩) 1 2) ∧ w'.cell? ⟨B, 0, none⟩ = some (.int .u64 (bits .or .u64 (lowW op d a b) (IntKind.u64.wrap (IntKind.u64.wrap m * 4294967296)))) ∧ Below B w w' := by
  obtain ⟨i0, hi, hz0, hz1, hz2⟩ := info_parts info48
  have h3' : (op == 3) = false := by simpa using h3
  clear h3
  have hlt := blk_lt hB
  have hb2 : ∀ X Y, Below w.heap.size w ((w.alloc X).alloc Y) := fun X Y => ((Below.refl _ _).alloc (Nat.le_refl _) _).alloc (by simp) _
  have hB2 : ∀ X Y, ((w.alloc X).alloc Y).heap[B]? = some (.cells #[z0, z1] t (0, 0)) := fun X Y => ((hb2 X Y).block B hlt).trans hB
  have H2 := Lib.hid hB2
  have HB := Lib.hid hb2
  clear hB2 hb2 hB
  go_enter Tryd.func27, Tryd.ntmps27
  go_wp2_with (at_builtin; refine wpList_append_arg _ rfl (.tmp 34) (.tmp 41) 27 rfl 48 i0 _ 1 8 Tryd.underlying27 hi hz0 hz1 hz2 rfl (by omega) B 0 0 2 [] rfl rfl (fun j u h => by cases h) ⟨_, 0, none⟩ 1 1 [_] rfl rfl (World.news_of_block (by have := heap_alloc_new (w.alloc (.cells #[.int .i64 op, .int .i64 d, .int .i64 a, .int .i64 b, .int .i64 m] 26)) (.cells #[.int .u64 (bits .or .u64 (lowW op d a b) (IntKind.u64.wrap (IntKind.u64.wrap m * 4294967296)))] 48); simpa [lowW] using this)) (by intro u hu; simp at hu; subst hu; rfl) (fun _ j hj => by rw [show 0 + 0 * 1 + j = j from by omega]; exact two_some (H2.out _ _) j (by simp at hj; omega)) (by unfold maxLen; omega) (by omega) ?_ (fun h => absurd h (by omega)))
  refine bodyPost_ret (v := .slice (some ⟨B, 0, none⟩) 1 2) (by simp [results, Tryd.results27, go_sem]) rfl ⟨rfl, two_set (H2.out _ _) _ (by simp) 0 (by simp), below_set ((HB.out _ _).mono (Nat.le_of_lt hlt)) _ _⟩
set_option maxRecDepth 100000 in
set_option maxHeartbeats 2000000 in
theorem words_arr2 {op d a b m : Int} (h3 : op = 3) (hB : w.heap[B]? = some (.cells #[z0, z1] t (0, 0))) :
    Calls Tryd.prog 27 #[.slice (some ⟨B, 0, none⟩) 0 2, .agg #[.int .i64 op, .int .i64 d, .int .i64 a, .int .i64 b, .int .i64 m]] w fun e w' => e = .returned (.slice (some ⟨B, 0, none⟩) 2 2) ∧ w'.cell? ⟨B, 0, none⟩ = some (.int .u64 (lowW op d a b)) ∧ w'.cell? ⟨B, 1, none⟩ = some (.int .u64 (IntKind.u64.wrap m)) ∧ Below B w w' := by
  obtain ⟨i0, hi, hz0, hz1, hz2⟩ := info_parts info48
  have h3' : (op == 3) = true := by simpa using h3
  clear h3
  have hlt := blk_lt hB
  have hb2 : ∀ X Y, Below w.heap.size w ((w.alloc X).alloc Y) := fun X Y => ((Below.refl _ _).alloc (Nat.le_refl _) _).alloc (by simp) _
  have hB2 : ∀ X Y, ((w.alloc X).alloc Y).heap[B]? = some (.cells #[z0, z1] t (0, 0)) := fun X Y => ((hb2 X Y).block B hlt).trans hB
  have H2 := Lib.hid hB2
  have HB := Lib.hid hb2
  clear hB2 hb2 hB
  go_enter Tryd.func27, Tryd.ntmps27
  go_wp2_with (at_builtin; refine wpList_append_arg _ rfl (.tmp 27) (.tmp 32) 27 rfl 48 i0 _ 1 8 Tryd.underlying27 hi hz0 hz1 hz2 rfl (by omega) B 0 0 2 [] rfl rfl (fun j u h => by cases h) ⟨_, 0, none⟩ 2 2 [_, _] rfl rfl (World.news_of_block (by have := heap_alloc_new (w.alloc (.cells #[.int .i64 op, .int .i64 d, .int .i64 a, .int .i64 b, .int .i64 m] 26)) (.cells #[.int .u64 (lowW op d a b), .int .u64 (IntKind.u64.wrap m)] 48); simpa [lowW] using this)) (by intro u hu; simp at hu; rcases hu with rfl | rfl <;> rfl) (fun _ j hj => by rw [show 0 + 0 * 1 + j = j from by omega]; exact two_some (H2.out _ _) j (by simp at hj; omega)) (by unfold maxLen; omega) (by omega) ?_ (fun h => absurd h (by omega)))
  refine bodyPost_ret (v := .slice (some ⟨B, 0, none⟩) 2 2) (by simp [results, Tryd.results27, go_sem]) rfl ⟨rfl, two_set (H2.out _ _) _ (by simp) 0 (by simp), two_set (H2.out _ _) _ (by simp) 1 (by simp), below_set ((HB.out _ _).mono (Nat.le_of_lt hlt)) _ _⟩
theorem words_arr (x : MI) (hx : x.ok) (hB : w.heap[B]? = some (.cells #[z0, z1] t (0, 0))) :
    Calls Tryd.prog 27 #[.slice (some ⟨B, 0, none⟩) 0 2, vl x] w fun e w' => e = .returned (.slice (some ⟨B, 0, none⟩) (wds x).length 2) ∧ (∀ k, k < (wds x).length → w'.cell? ⟨B, 0 + k, none⟩ = some (.int .u64 ((wds x).getD k 0))) ∧ Below B w w' := by
  by_cases h3 : x.op = 3
  · have e : wds x = [lowW x.op x.d x.a x.b, IntKind.u64.wrap x.m] := by
      unfold wds; rw [if_pos h3, lowW_eq hx, IntKind.wrap_u64]
    rw [e]
    refine (words_arr2 h3 hB).mono fun _ _ h => ⟨h.1, fun k hk => ?_, h.2.2.2⟩
    have hk : k = 0 ∨ k = 1 := by simp at hk; omega
    rcases hk with rfl | rfl
    · exact h.2.1
    · exact h.2.2.1
  · have e : wds x = [bits .or .u64 (lowW x.op x.d x.a x.b) (IntKind.u64.wrap (IntKind.u64.wrap x.m * 4294967296))] := by
      unfold wds; rw [if_neg h3, highW hx]
    rw [e]
    refine (words_arr1 h3 hB).mono fun _ _ h => ⟨h.1, fun k hk => ?_, h.2.2⟩
    have hk : k = 0 := by simp at hk; omega
    subst hk
    exact h.2.1
end
end Go.Proofs.YtbkojaiecgdodaaDoor
end
