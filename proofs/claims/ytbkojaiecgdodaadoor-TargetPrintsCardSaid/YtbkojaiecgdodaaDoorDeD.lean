/- A part of the proof of TacG. -/
import Derived.Test.YtbkojaiecgdodaaDoorEnS
import Derived.ArgAppend
import Derived.Laws.Tables
section
set_option linter.unusedVariables false
set_option linter.unusedSimpArgs false
namespace Go.Proofs.YtbkojaiecgdodaaDoor
open Go Go.Ev Go.RowKit
/-- a slice of words, nil or not -/
structure Rows1 (w : World) (A : Option Addr) (n c : Nat) (ws : List Int) : Prop where
  len : ws.length = n
  fits : ∀ k, k < n → 0 ≤ ws.getD k 0 ∧ ws.getD k 0 < 18446744073709551616
  cap : n ≤ c
  get : ∀ k, k < n → ∃ B o, A = some ⟨B, o, none⟩ ∧ w.cell? ⟨B, o + k, none⟩ = some (.int .u64 (ws.getD k 0))
theorem Rows1.later {w w' : World} {A : Option Addr} {n c : Nat} {ws : List Int} (h : Rows1 w A n c ws) (hb : Below w.heap.size w w') : Rows1 w' A n c ws :=
  ⟨h.len, h.fits, h.cap, fun k hk => by
    obtain ⟨B, o, e, h0⟩ := h.get k hk
    exact ⟨B, o, e, (hb.cell (World.block_lt_of_cell? w _ h0)).trans h0⟩⟩
theorem Rows1.at {w : World} {A : Option Addr} {n c : Nat} {ws : List Int} (h : Rows1 w A n c ws) (hn : 0 < n) : ∃ B o, A = some ⟨B, o, none⟩ ∧ B < w.heap.size ∧ ∀ k, k < n → w.cell? ⟨B, o + k, none⟩ = some (.int .u64 (ws.getD k 0)) := by
  obtain ⟨B, o, e, h0⟩ := h.get 0 hn
  refine ⟨B, o, e, World.block_lt_of_cell? w _ h0, fun k hk => ?_⟩
  obtain ⟨B', o', e', h1⟩ := h.get k hk
  rw [e] at e'
  simp at e'
  obtain ⟨rfl, rfl⟩ := e'
  exact h1
theorem cell_a1 {w : World} {p : Addr} {v : Value} (h : w.cell? p = some v) (X : Obj) : (w.alloc X).cell? p = some v := (((Below.refl w.heap.size w).alloc (Nat.le_refl _) X).cell (World.block_lt_of_cell? _ _ h)).trans h
theorem cell_a2 {w : World} {p : Addr} {v : Value} (h : w.cell? p = some v) (X Y : Obj) : ((w.alloc X).alloc Y).cell? p = some v := cell_a1 (cell_a1 h X) Y
def s32 (h : Int) : Int := if h < 2147483648 then h else h - 4294967296
def s64 (v : Int) : Int := if v < 9223372036854775808 then v else v - 18446744073709551616
/-- what a first word says -/
def gxl (W m : Int) : MI := ⟨W % 256, W / 256 % 16, W / 4096 % 16, W / 65536 % 16, m⟩
def gnx (ws : List Int) (at_ : Nat) : MI × Nat :=
  if ws.getD at_ 0 % 256 = 3 ∧ at_ + 1 < ws.length then (gxl (ws.getD at_ 0) (s64 (ws.getD (at_ + 1) 0)), at_ + 2) else (gxl (ws.getD at_ 0) (s32 (ws.getD at_ 0 / 4294967296)), at_ + 1)
end Go.Proofs.YtbkojaiecgdodaaDoor
end
section
set_option linter.unusedVariables false
set_option linter.unusedSimpArgs false
namespace Go.Proofs.YtbkojaiecgdodaaDoor
open Go Go.Ev Go.RowKit
section
variable {w : World} {B o n c at_ : Nat} {W op d a b m : Int}
set_option maxRecDepth 100000 in
set_option maxHeartbeats 2000000 in
theorem guess_c (hlt : at_ < n) (hc : w.cell? ⟨B, o + at_, none⟩ = some (.int .u64 W)) (hn : n ≤ 400)
    (e0 : bits .and .u64 W 255 = op) (w0 : wrap64 op = op) (e1 : bits .and .u64 (W / 256) 15 = d) (w1 : wrap64 d = d) (e2 : bits .and .u64 (W / 4096) 15 = a) (w2 : wrap64 a = a) (e3 : bits .and .u64 (W / 65536) 15 = b) (w3 : wrap64 b = b) (e4 : wrap32 (W / 4294967296) = m) (w4 : wrap64 m = m)
    (h3 : ¬ op = 3) :
    Calls Tryd.prog 29 #[.slice (some ⟨B, o, none⟩) n c, .int .i64 at_] w fun e w' => e = .returned (.tuple #[.agg #[.int .i64 op, .int .i64 d, .int .i64 a, .int .i64 b, .int .i64 m], .int .i64 (at_ + 1)]) ∧ Below w.heap.size w w' := by
  have hadd := add_none B o at_
  have hc1 := cell_a1 hc
  have h3' : (op == 3) = false := by simpa using h3
  go_enter Tryd.func29, Tryd.ntmps29
  go_wp2_with fail
  refine bodyPost_ret (v := .tuple #[.agg #[.int .i64 op, .int .i64 d, .int .i64 a, .int .i64 b, .int .i64 m], .int .i64 (at_ + 1)]) (by simp [results, Tryd.results29, go_sem]) rfl ⟨rfl, ((Below.refl _ _).alloc (Nat.le_refl _) _).alloc (by simp) _⟩
set_option maxRecDepth 100000 in
set_option maxHeartbeats 2000000 in
theorem guess_b (hlt : at_ < n) (hc : w.cell? ⟨B, o + at_, none⟩ = some (.int .u64 W)) (hn : n ≤ 400)
    (e0 : bits .and .u64 W 255 = op) (w0 : wrap64 op = op) (e1 : bits .and .u64 (W / 256) 15 = d) (w1 : wrap64 d = d) (e2 : bits .and .u64 (W / 4096) 15 = a) (w2 : wrap64 a = a) (e3 : bits .and .u64 (W / 65536) 15 = b) (w3 : wrap64 b = b) (e4 : wrap32 (W / 4294967296) = m) (w4 : wrap64 m = m)
    (h3 : op = 3) (hm : ¬ ((at_ : Int) + 1 < n)) :
    Calls Tryd.prog 29 #[.slice (some ⟨B, o, none⟩) n c, .int .i64 at_] w fun e w' => e = .returned (.tuple #[.agg #[.int .i64 op, .int .i64 d, .int .i64 a, .int .i64 b, .int .i64 m], .int .i64 (at_ + 1)]) ∧ Below w.heap.size w w' := by
  have hadd := add_none B o at_
  have hc1 := cell_a1 hc
  have h3' : (op == 3) = true := by simpa using h3
  clear h3
  go_enter Tryd.func29, Tryd.ntmps29
  go_wp2_with fail
  refine bodyPost_ret (v := .tuple #[.agg #[.int .i64 op, .int .i64 d, .int .i64 a, .int .i64 b, .int .i64 m], .int .i64 (at_ + 1)]) (by simp [results, Tryd.results29, go_sem]) rfl ⟨rfl, ((Below.refl _ _).alloc (Nat.le_refl _) _).alloc (by simp) _⟩
set_option maxRecDepth 100000 in
set_option maxHeartbeats 2000000 in
theorem guess_a {V m2 : Int} (hlt : at_ < n) (hc : w.cell? ⟨B, o + at_, none⟩ = some (.int .u64 W)) (hd : w.cell? ⟨B, o + (at_ + 1), none⟩ = some (.int .u64 V)) (hn : n ≤ 400)
    (e0 : bits .and .u64 W 255 = op) (w0 : wrap64 op = op) (e1 : bits .and .u64 (W / 256) 15 = d) (w1 : wrap64 d = d) (e2 : bits .and .u64 (W / 4096) 15 = a) (w2 : wrap64 a = a) (e3 : bits .and .u64 (W / 65536) 15 = b) (w3 : wrap64 b = b) (e4 : wrap32 (W / 4294967296) = m) (w4 : wrap64 m = m)
    (h3 : op = 3) (hm : (at_ : Int) + 1 < n) (e5 : wrap64 V = m2) :
    Calls Tryd.prog 29 #[.slice (some ⟨B, o, none⟩) n c, .int .i64 at_] w fun e w' => e = .returned (.tuple #[.agg #[.int .i64 op, .int .i64 d, .int .i64 a, .int .i64 b, .int .i64 m2], .int .i64 (at_ + 2)]) ∧ Below w.heap.size w w' := by
  have hadd := add_none B o at_
  have hadd2 := add_none B o (at_ + 1)
  have hc1 := cell_a1 hc
  have hd2 := cell_a2 hd
  have h3' : (op == 3) = true := by simpa using h3
  clear h3
  go_enter Tryd.func29, Tryd.ntmps29
  go_wp2_with fail
  refine bodyPost_ret (v := .tuple #[.agg #[.int .i64 op, .int .i64 d, .int .i64 a, .int .i64 b, .int .i64 m2], .int .i64 (at_ + 2)]) (by simp [results, Tryd.results29, go_sem]) rfl ⟨rfl, ((Below.refl _ _).alloc (Nat.le_refl _) _).alloc (by simp) _⟩
end
end Go.Proofs.YtbkojaiecgdodaaDoor
end
section
set_option linter.unusedVariables false
set_option linter.unusedSimpArgs false
namespace Go.Proofs.YtbkojaiecgdodaaDoor
open Go Go.Ev Go.RowKit
theorem and_low (W : Int) (k : Nat) (p : Int) (hp : ((2 ^ k : Nat) : Int) = p) (hk : k ≤ 63) (h0 : 0 ≤ W) (h1 : W < 18446744073709551616) : bits .and .u64 W (p - 1) = W % p := by
  obtain ⟨X, rfl⟩ := Int.eq_ofNat_of_zero_le h0
  subst hp
  have hX : X < 2 ^ 64 := by omega
  have hpos : 0 < 2 ^ k := Nat.two_pow_pos k
  have hle : 2 ^ k ≤ 2 ^ 63 := Nat.pow_le_pow_right (by decide) hk
  have e2 : (((2 ^ k : Nat) : Int) - 1) = ((2 ^ k - 1 : Nat) : Int) := by omega
  rw [e2]
  have h2 : (BitVec.ofInt 64 (X : Int)).toNat = X := by rw [BitVec.toNat_ofInt]; omega
  have h3 : (BitVec.ofInt 64 ((2 ^ k - 1 : Nat) : Int)).toNat = 2 ^ k - 1 := by
    rw [BitVec.toNat_ofInt]
    generalize 2 ^ k = q at *
    omega
  show IntKind.u64.wrap (((BitVec.ofInt 64 (X : Int) &&& BitVec.ofInt 64 ((2 ^ k - 1 : Nat) : Int)).toNat : Nat) : Int) = _
  rw [BitVec.toNat_and, h2, h3, Nat.and_two_pow_sub_one_eq_mod, IntKind.wrap_u64]
  have : X % 2 ^ k ≤ X := Nat.mod_le _ _
  have e : ((X % 2 ^ k : Nat) : Int) = (X : Int) % ((2 ^ k : Nat) : Int) := Int.natCast_emod _ _
  rw [← e]
  generalize X % 2 ^ k = q at *
  omega
theorem and255 {W : Int} (h0 : 0 ≤ W) (h1 : W < 18446744073709551616) : bits .and .u64 W 255 = W % 256 := and_low W 8 256 (by decide) (by decide) h0 h1
theorem and15 {W : Int} (h0 : 0 ≤ W) (h1 : W < 18446744073709551616) : bits .and .u64 W 15 = W % 16 := and_low W 4 16 (by decide) (by decide) h0 h1
/-- a struct of an instruction -/
def vl (x : MI) : Value := .agg #[.int .i64 x.op, .int .i64 x.d, .int .i64 x.a, .int .i64 x.b, .int .i64 x.m]
theorem guess_calls {w : World} {A : Option Addr} {n c at_ : Nat} {ws : List Int} (hO : Rows1 w A n c ws) (hlt : at_ < n) (hn : n ≤ 400) :
    Calls Tryd.prog 29 #[.slice A n c, .int .i64 at_] w fun e w' => e = .returned (.tuple #[vl (gnx ws at_).1, .int .i64 (gnx ws at_).2]) ∧ Below w.heap.size w w' := by
  obtain ⟨B, o, rfl, hB, hget⟩ := hO.at (by omega)
  obtain ⟨l0, u0⟩ := hO.fits at_ hlt
  have hc := hget at_ hlt
  have hlen := hO.len
  generalize hW : ws.getD at_ 0 = W at *
  have e0 := and255 l0 u0
  have e1 := and15 (W := W / 256) (by omega) (by omega)
  have e2 := and15 (W := W / 4096) (by omega) (by omega)
  have e3 := and15 (W := W / 65536) (by omega) (by omega)
  have e4 : wrap32 (W / 4294967296) = s32 (W / 4294967296) := by unfold wrap32 s32; split <;> omega
  have w0 : wrap64 (W % 256) = W % 256 := by unfold wrap64; omega
  have w1 : wrap64 (W / 256 % 16) = W / 256 % 16 := by unfold wrap64; omega
  have w2 : wrap64 (W / 4096 % 16) = W / 4096 % 16 := by unfold wrap64; omega
  have w3 : wrap64 (W / 65536 % 16) = W / 65536 % 16 := by unfold wrap64; omega
  have w4 : wrap64 (s32 (W / 4294967296)) = s32 (W / 4294967296) := by unfold wrap64 s32; split <;> omega
  by_cases h3 : W % 256 = 3
  · by_cases hm : at_ + 1 < n
    · have hd := hget (at_ + 1) hm
      obtain ⟨l1, u1⟩ := hO.fits (at_ + 1) hm
      have e5 : wrap64 (ws.getD (at_ + 1) 0) = s64 (ws.getD (at_ + 1) 0) := by unfold wrap64 s64; split <;> omega
      have e : gnx ws at_ = (gxl W (s64 (ws.getD (at_ + 1) 0)), at_ + 2) := by unfold gnx; rw [hW, if_pos ⟨h3, by omega⟩]
      rw [e]
      exact (guess_a hlt hc hd hn e0 w0 e1 w1 e2 w2 e3 w3 e4 w4 h3 (by omega) e5).mono fun _ _ h => ⟨h.1, h.2⟩
    · have e : gnx ws at_ = (gxl W (s32 (W / 4294967296)), at_ + 1) := by unfold gnx; rw [hW, if_neg (fun h => hm (by have := h.2; omega))]
      rw [e]
      exact (guess_b hlt hc hn e0 w0 e1 w1 e2 w2 e3 w3 e4 w4 h3 (by omega)).mono fun _ _ h => ⟨h.1, h.2⟩
  · have e : gnx ws at_ = (gxl W (s32 (W / 4294967296)), at_ + 1) := by unfold gnx; rw [hW, if_neg (fun h => h3 h.1)]
    rw [e]
    exact (guess_c hlt hc hn e0 w0 e1 w1 e2 w2 e3 w3 e4 w4 h3).mono fun _ _ h => ⟨h.1, h.2⟩
end Go.Proofs.YtbkojaiecgdodaaDoor
end
section
set_option linter.unusedVariables false
set_option linter.unusedSimpArgs false
namespace Go.Proofs.YtbkojaiecgdodaaDoor
open Go Go.Ev Go.RowKit
set_option maxRecDepth 100000 in
set_option maxHeartbeats 4000000 in
theorem equal_words {w : World} {B1 o1 B2 o2 n c1 c2 : Nat} {l1 l2 : List Int} (e1 : l1.length = n) (e2 : l2.length = n) (hn : n ≤ 2)
    (h1 : ∀ k, k < n → w.cell? ⟨B1, o1 + k, none⟩ = some (.int .u64 (l1.getD k 0))) (h2 : ∀ k, k < n → w.cell? ⟨B2, o2 + k, none⟩ = some (.int .u64 (l2.getD k 0))) :
    Calls Tryd.prog 30 #[.slice (some ⟨B1, o1, none⟩) n c1, .slice (some ⟨B2, o2, none⟩) n c2] w (Bo w (decide (l1 = l2))) := by
  have H1 := Lib.hid h1
  have H2 := Lib.hid h2
  clear h1 h2
  go_enter Tryd.func30, Tryd.ntmps30
  go_wp2_with fail
  go_loopw [13] (fun i wr => ∃ k : Nat, i = .int .i64 k ∧ k ≤ n ∧ Below w.heap.size w wr ∧ ∀ j, j < k → l1.getD j 0 = l2.getD j 0) (fun i _ => (n - intOf i).toNat)
  case atStart => exact ⟨0, rfl, Nat.zero_le _, Below.refl _ _, fun j hj => absurd hj (Nat.not_lt_zero _)⟩
  case round =>
    obtain ⟨k, rfl, hk, hb, hall⟩ := hrel
    by_cases hlt : k < n
    · have d1 := H1.out k hlt
      have d2 := H2.out k hlt
      have f1 := (hb.cell (World.block_lt_of_cell? _ _ d1)).trans d1
      have f2 := (hb.cell (World.block_lt_of_cell? _ _ d2)).trans d2
      have ha1 := add_none B1 o1 k
      have ha2 := add_none B2 o2 k
      have HB2 := Lib.hid hb
      have HA := Lib.hid hall
      clear d1 d2 hb hall
      by_cases hq : l1.getD k 0 = l2.getD k 0
      · rw [← hq] at f2
        generalize hr : l1.getD k 0 = r at *
        go_wp2_with fail
        go_region
        go_wp2_with fail
        go_roundw
        case rel => exact ⟨k + 1, by go_num, by omega, HB2.out.drew, fun j hj => by
          rcases Nat.lt_or_ge j k with h | h
          · exact HA.out j h
          · obtain rfl : j = k := by omega
            rw [hr]; exact hq⟩
        case measure => simp [intOf]; omega
      · have hne : ¬ l1 = l2 := fun h => hq (by rw [h])
        have hq' : (l1.getD k 0 == l2.getD k 0) = false := by simpa using hq
        rw [decide_eq_false hne]
        generalize l1.getD k 0 = r at *
        generalize l2.getD k 0 = s at *
        go_wp2_with fail
        go_region
        go_wp2_with fail
        refine bodyPost_ret (v := .bool false) (by simp [results, Tryd.results30, go_sem]) rfl ⟨rfl, HB2.out.drew⟩
    · obtain rfl : n = k := by omega
      have heq : l1 = l2 := List.ext_getElem (by omega) fun j h1 h2 => by
        have := hall j (by omega)
        simpa [List.getD, List.getElem?_eq_getElem h1, List.getElem?_eq_getElem h2] using this
      have HB2 := Lib.hid hb
      clear hb hall
      go_wp2_with fail
      refine bodyPost_ret (v := .bool true) (by simp [results, Tryd.results30, go_sem]) rfl ⟨by rw [decide_eq_true heq], HB2.out⟩
set_option maxRecDepth 100000 in
set_option maxHeartbeats 4000000 in
theorem equal_len {w : World} {p1 p2 : Option Addr} {n m c1 c2 : Nat} (h : ¬ n = m) :
    Calls Tryd.prog 30 #[.slice p1 n c1, .slice p2 m c2] w (Bo w false) := by
  have h' : ¬ (n : Int) = m := by omega
  go_enter Tryd.func30, Tryd.ntmps30
  go_wp2_with fail
  refine bodyPost_ret (v := .bool false) (by simp [results, Tryd.results30, go_sem]) rfl ⟨rfl, Below.refl _ _⟩
end Go.Proofs.YtbkojaiecgdodaaDoor
end
section
set_option linter.unusedVariables false
set_option linter.unusedSimpArgs false
namespace Go.Proofs.YtbkojaiecgdodaaDoor
open Go Go.Ev Go.RowKit
section
variable {w W : World} {B t : Nat} {z0 z1 : Value}
theorem blk_lt {o : Obj} (hB : w.heap[B]? = some o) : B < w.heap.size := by
  rcases Nat.lt_or_ge B w.heap.size with h | h
  · exact h
  · simp [Array.getElem?_eq_none h] at hB
theorem two_some (hB : W.heap[B]? = some (.cells #[z0, z1] t (0, 0))) (j : Nat) (hj : j < 2) : (W.cell? ⟨B, j, none⟩).isSome = true ∧ W.frozen? ⟨B, j, none⟩ = false := by
  have h : j = 0 ∨ j = 1 := by omega
  rcases h with rfl | rfl <;> simp [World.cell?, World.frozen?, hB]
theorem two_set (hB : W.heap[B]? = some (.cells #[z0, z1] t (0, 0))) (vs : List Value) (hl : vs.length ≤ 2) (j : Nat) (hj : j < vs.length) : (W.setCells B 0 vs).cell? ⟨B, j, none⟩ = some vs[j] := by
  have := World.cell?_setCells_in B vs 0 W (fun i hi => by rw [Nat.zero_add]; exact (two_some hB i (by omega)).1) j hj
  rwa [Nat.zero_add] at this
theorem below_set {w0 : World} (h : Below B w0 W) (vs : List Value) (k : Nat) : Below B w0 (W.setCells B k vs) := by
  letI := noDen
  exact ⟨((setCells_rest B vs k W).1).trans h.os, ((setCells_rest B vs k W).2.1).trans h.tape, ((setCells_rest B vs k W).2.2).trans h.output, by rw [setCells_size]; exact h.size, fun i hi => (setCells_heap B vs k W i (by omega)).trans (h.block i hi)⟩
set_option maxRecDepth 100000 in
set_option maxHeartbeats 2000000 in
theorem words_arr1 {op d a b m : Int} (h3 : ¬ op = 3) (hB : w.heap[B]? = some (.cells #[z0, z1] t (0, 0))) :
    Calls Tryd.prog 27 #[.slice (some ⟨B, 0, none⟩) 0 2, .agg #[.int .i64 op, .int .i64 d, .int .i64 a, .int .i64 b, .int .i64 m]] w fun e w' => e = .returned (.slice (some ⟨B, 0, none⟩) 1 2) ∧ w'.cell? ⟨B, 0, none⟩ = some (.int .u64 (bits .or .u64 (lowW op d a b) (IntKind.u64.wrap (IntKind.u64.wrap m * 4294967296)))) ∧ Below B w w' := by
  obtain ⟨i0, hi, hz0, hz1, hz2⟩ := info_parts info48
  have h3' : (op == 3) = false := by simpa using h3
  clear h3
  have hlt := blk_lt hB
  have hb2 : ∀ X Y, Below w.heap.size w ((w.alloc X).alloc Y) := fun X Y => ((Below.refl _ _).alloc (Nat.le_refl _) _).alloc (by simp) _
  have hB2 : ∀ X Y, ((w.alloc X).alloc Y).heap[B]? = some (.cells #[z0, z1] t (0, 0)) := fun X Y => ((hb2 X Y).block B hlt).trans hB
  have H2 := Lib.hid hB2
  have HB := Lib.hid hb2
  clear hB2 hb2 hB
  go_enter Tryd.func27, Tryd.ntmps27
  go_wp2_with (at_builtin; refine wpList_append_arg _ rfl (.tmp 34) (.tmp 41) 27 rfl 48 i0 _ 1 8 Tryd.underlying27 hi hz0 hz1 hz2 rfl (by omega) B 0 0 2 [] rfl rfl (fun j u h => by cases h) ⟨_, 0, none⟩ 1 1 [_] rfl rfl (World.news_of_block (by have := heap_alloc_new (w.alloc (.cells #[.int .i64 op, .int .i64 d, .int .i64 a, .int .i64 b, .int .i64 m] 26)) (.cells #[.int .u64 (bits .or .u64 (lowW op d a b) (IntKind.u64.wrap (IntKind.u64.wrap m * 4294967296)))] 48); simpa [lowW] using this)) (by intro u hu; simp at hu; subst hu; rfl) (fun _ j hj => by rw [show 0 + 0 * 1 + j = j from by omega]; exact two_some (H2.out _ _) j (by simp at hj; omega)) (by unfold maxLen; omega) (by omega) ?_ (fun h => absurd h (by omega)))
  refine bodyPost_ret (v := .slice (some ⟨B, 0, none⟩) 1 2) (by simp [results, Tryd.results27, go_sem]) rfl ⟨rfl, two_set (H2.out _ _) _ (by simp) 0 (by simp), below_set ((HB.out _ _).mono (Nat.le_of_lt hlt)) _ _⟩
set_option maxRecDepth 100000 in
set_option maxHeartbeats 2000000 in
theorem words_arr2 {op d a b m : Int} (h3 : op = 3) (hB : w.heap[B]? = some (.cells #[z0, z1] t (0, 0))) :
    Calls Tryd.prog 27 #[.slice (some ⟨B, 0, none⟩) 0 2, .agg #[.int .i64 op, .int .i64 d, .int .i64 a, .int .i64 b, .int .i64 m]] w fun e w' => e = .returned (.slice (some ⟨B, 0, none⟩) 2 2) ∧ w'.cell? ⟨B, 0, none⟩ = some (.int .u64 (lowW op d a b)) ∧ w'.cell? ⟨B, 1, none⟩ = some (.int .u64 (IntKind.u64.wrap m)) ∧ Below B w w' := by
  obtain ⟨i0, hi, hz0, hz1, hz2⟩ := info_parts info48
  have h3' : (op == 3) = true := by simpa using h3
  clear h3
  have hlt := blk_lt hB
  have hb2 : ∀ X Y, Below w.heap.size w ((w.alloc X).alloc Y) := fun X Y => ((Below.refl _ _).alloc (Nat.le_refl _) _).alloc (by simp) _
  have hB2 : ∀ X Y, ((w.alloc X).alloc Y).heap[B]? = some (.cells #[z0, z1] t (0, 0)) := fun X Y => ((hb2 X Y).block B hlt).trans hB
  have H2 := Lib.hid hB2
  have HB := Lib.hid hb2
  clear hB2 hb2 hB
  go_enter Tryd.func27, Tryd.ntmps27
  go_wp2_with (at_builtin; refine wpList_append_arg _ rfl (.tmp 27) (.tmp 32) 27 rfl 48 i0 _ 1 8 Tryd.underlying27 hi hz0 hz1 hz2 rfl (by omega) B 0 0 2 [] rfl rfl (fun j u h => by cases h) ⟨_, 0, none⟩ 2 2 [_, _] rfl rfl (World.news_of_block (by have := heap_alloc_new (w.alloc (.cells #[.int .i64 op, .int .i64 d, .int .i64 a, .int .i64 b, .int .i64 m] 26)) (.cells #[.int .u64 (lowW op d a b), .int .u64 (IntKind.u64.wrap m)] 48); simpa [lowW] using this)) (by intro u hu; simp at hu; rcases hu with rfl | rfl <;> rfl) (fun _ j hj => by rw [show 0 + 0 * 1 + j = j from by omega]; exact two_some (H2.out _ _) j (by simp at hj; omega)) (by unfold maxLen; omega) (by omega) ?_ (fun h => absurd h (by omega)))
  refine bodyPost_ret (v := .slice (some ⟨B, 0, none⟩) 2 2) (by simp [results, Tryd.results27, go_sem]) rfl ⟨rfl, two_set (H2.out _ _) _ (by simp) 0 (by simp), two_set (H2.out _ _) _ (by simp) 1 (by simp), below_set ((HB.out _ _).mono (Nat.le_of_lt hlt)) _ _⟩
theorem words_arr (x : MI) (hx : x.ok) (hB : w.heap[B]? = some (.cells #[z0, z1] t (0, 0))) :
    Calls Tryd.prog 27 #[.slice (some ⟨B, 0, none⟩) 0 2, vl x] w fun e w' => e = .returned (.slice (some ⟨B, 0, none⟩) (wds x).length 2) ∧ (∀ k, k < (wds x).length → w'.cell? ⟨B, 0 + k, none⟩ = some (.int .u64 ((wds x).getD k 0))) ∧ Below B w w' := by
  by_cases h3 : x.op = 3
  · have e : wds x = [lowW x.op x.d x.a x.b, IntKind.u64.wrap x.m] := by
      unfold wds; rw [if_pos h3, lowW_eq hx, IntKind.wrap_u64]
    rw [e]
    refine (words_arr2 h3 hB).mono fun _ _ h => ⟨h.1, fun k hk => ?_, h.2.2.2⟩
    have hk : k = 0 ∨ k = 1 := by simp at hk; omega
    rcases hk with rfl | rfl
    · exact h.2.1
    · exact h.2.2.1
  · have e : wds x = [bits .or .u64 (lowW x.op x.d x.a x.b) (IntKind.u64.wrap (IntKind.u64.wrap x.m * 4294967296))] := by
      unfold wds; rw [if_neg h3, highW hx]
    rw [e]
    refine (words_arr1 h3 hB).mono fun _ _ h => ⟨h.1, fun k hk => ?_, h.2.2⟩
    have hk : k = 0 := by simp at hk; omega
    subst hk
    exact h.2.1
end
end Go.Proofs.YtbkojaiecgdodaaDoor
end
section
set_option linter.unusedVariables false
set_option linter.unusedSimpArgs false
namespace Go.Proofs.YtbkojaiecgdodaaDoor
open Go Go.Ev Go.RowKit
def MI0 : MI := ⟨0, 0, 0, 0, 0⟩
def sl (ws : List Int) (at_ : Nat) : List Int := (ws.drop at_).take ((gnx ws at_).2 - at_)
def acc (ws : List Int) (at_ : Nat) : Prop := (gnx ws at_).1.ok ∧ wds (gnx ws at_).1 = sl ws at_
noncomputable instance (ws : List Int) (at_ : Nat) : Decidable (acc ws at_) := Classical.propDecidable _
noncomputable def decV (ws : List Int) (at_ : Nat) : Value := if acc ws at_ then .tuple #[vl (gnx ws at_).1, .int .i64 (gnx ws at_).2, .int .i64 0] else .tuple #[vl MI0, .int .i64 0, .int .i64 6]
noncomputable def decA (ws : List Int) (i : Int) : Value := if i < 0 ∨ (ws.length : Int) ≤ i then .tuple #[vl MI0, .int .i64 0, .int .i64 2] else decV ws i.toNat
theorem fits_of {W m : Int} (h0 : 0 ≤ W) (h1 : -9223372036854775808 ≤ m) (h2 : m ≤ 9223372036854775807) : (gxl W m).fits := by
  refine ⟨?_, ?_, h1, h2⟩ <;> simp only [gxl] <;> omega
theorem gnx_fits {w : World} {A : Option Addr} {n c at_ : Nat} {ws : List Int} (hO : Rows1 w A n c ws) (hlt : at_ < n) : (gnx ws at_).1.fits := by
  obtain ⟨l0, u0⟩ := hO.fits at_ hlt
  unfold gnx
  split
  · rename_i h
    obtain ⟨l1, u1⟩ := hO.fits (at_ + 1) (by have := hO.len; omega)
    exact fits_of l0 (by unfold s64; split <;> omega) (by unfold s64; split <;> omega)
  · exact fits_of l0 (by unfold s32; split <;> omega) (by unfold s32; split <;> omega)
theorem gnx_next {w : World} {A : Option Addr} {n c at_ : Nat} {ws : List Int} (hO : Rows1 w A n c ws) (hlt : at_ < n) : at_ + 1 ≤ (gnx ws at_).2 ∧ (gnx ws at_).2 ≤ n ∧ (gnx ws at_).2 ≤ at_ + 2 := by
  have := hO.len
  unfold gnx
  split
  · rename_i h; simp; omega
  · simp; omega
theorem set_facts {w1 : World} {g : Nat} {old : Array Value} {t : TypeId} (cells : Array Value) (hg : w1.heap[g]? = some (.cells old t (0, 0))) :
    (w1.setRow g cells).heap[g]? = some (.cells cells t (0, 0)) ∧ Below g w1 (w1.setRow g cells) ∧ (w1.setRow g cells).heap.size = w1.heap.size :=
  ⟨setRow_heap w1 g old cells t (0, 0) hg, ⟨rfl, rfl, rfl, by simp, fun k hk => setRow_other w1 g k cells (by omega)⟩, by simp⟩
theorem setRow_twice (w : World) (g : Nat) (a b : Array Value) : (w.setRow g a).setRow g b = w.setRow g b := by
  unfold World.setRow
  congr 1
  apply Array.ext_getElem?
  intro i
  simp only [Array.getElem?_modify]
  by_cases h : g = i
  · simp only [h, if_true]
    cases w.heap[i]? with
    | none => rfl
    | some o => cases o <;> rfl
  · simp only [h, if_false]
theorem chain5 {w1 : World} {g : Nat} {z0 z1 z2 z3 z4 a0 a1 a2 a3 a4 : Value} {t : TypeId} (hg : w1.heap[g]? = some (.cells #[z0, z1, z2, z3, z4] t (0, 0))) :
    (((((w1.setCell ⟨g, 0, none⟩ a0).setCell ⟨g, 1, none⟩ a1).setCell ⟨g, 2, none⟩ a2).setCell ⟨g, 3, none⟩ a3).setCell ⟨g, 4, none⟩ a4) = w1.setRow g #[a0, a1, a2, a3, a4] := by
  rw [setCell_eq_setRow w1 g 0 _ t (0, 0) _ hg]
  have h0 := setRow_heap w1 g #[z0, z1, z2, z3, z4] #[a0, z1, z2, z3, z4] t (0, 0) hg
  show ((((w1.setRow g #[a0, z1, z2, z3, z4]).setCell _ a1).setCell _ a2).setCell _ a3).setCell _ a4 = _
  rw [setCell_eq_setRow _ g 1 _ t (0, 0) _ h0]
  have h1 := setRow_heap _ g _ #[a0, a1, z2, z3, z4] t (0, 0) h0
  show ((((w1.setRow g #[a0, z1, z2, z3, z4]).setRow g #[a0, a1, z2, z3, z4]).setCell _ a2).setCell _ a3).setCell _ a4 = _
  rw [setCell_eq_setRow _ g 2 _ t (0, 0) _ h1]
  have h2 := setRow_heap _ g _ #[a0, a1, a2, z3, z4] t (0, 0) h1
  show ((((w1.setRow g #[a0, z1, z2, z3, z4]).setRow g #[a0, a1, z2, z3, z4]).setRow g #[a0, a1, a2, z3, z4]).setCell _ a3).setCell _ a4 = _
  rw [setCell_eq_setRow _ g 3 _ t (0, 0) _ h2]
  have h3 := setRow_heap _ g _ #[a0, a1, a2, a3, z4] t (0, 0) h2
  show ((((w1.setRow g #[a0, z1, z2, z3, z4]).setRow g #[a0, a1, z2, z3, z4]).setRow g #[a0, a1, a2, z3, z4]).setRow g #[a0, a1, a2, a3, z4]).setCell _ a4 = _
  rw [setCell_eq_setRow _ g 4 _ t (0, 0) _ h3]
  show ((((w1.setRow g #[a0, z1, z2, z3, z4]).setRow g #[a0, a1, z2, z3, z4]).setRow g #[a0, a1, a2, z3, z4]).setRow g #[a0, a1, a2, a3, z4]).setRow g #[a0, a1, a2, a3, a4] = _
  rw [setRow_twice, setRow_twice, setRow_twice, setRow_twice]
theorem free5 {w1 : World} {g : Nat} {z0 z1 z2 z3 z4 : Value} {t : TypeId} (hg : w1.heap[g]? = some (.cells #[z0, z1, z2, z3, z4] t (0, 0))) :
    (∀ i, i < 5 → (w1.frozen? ⟨g, i, none⟩ = false)) ∧ w1.cell? ⟨g, 0, none⟩ = some z0 ∧ w1.cell? ⟨g, 1, none⟩ = some z1 ∧ w1.cell? ⟨g, 2, none⟩ = some z2 ∧ w1.cell? ⟨g, 3, none⟩ = some z3 ∧ w1.cell? ⟨g, 4, none⟩ = some z4 := by
  refine ⟨fun i hi => by simp [World.frozen?, hg], ?_, ?_, ?_, ?_, ?_⟩ <;> simp [World.cell?, hg]
/-- behind a store of the whole struct -/
theorem after5 {w1 : World} {g : Nat} {z0 z1 z2 z3 z4 a0 a1 a2 a3 a4 : Value} {t : TypeId} (hg : w1.heap[g]? = some (.cells #[z0, z1, z2, z3, z4] t (0, 0))) :
    (w1.setRow g #[a0, a1, a2, a3, a4]).cell? ⟨g, 0, none⟩ = some a0 ∧ (w1.setRow g #[a0, a1, a2, a3, a4]).cell? ⟨g, 1, none⟩ = some a1 ∧ (w1.setRow g #[a0, a1, a2, a3, a4]).cell? ⟨g, 2, none⟩ = some a2 ∧ (w1.setRow g #[a0, a1, a2, a3, a4]).cell? ⟨g, 3, none⟩ = some a3 ∧ (w1.setRow g #[a0, a1, a2, a3, a4]).cell? ⟨g, 4, none⟩ = some a4 := by
  have h := setRow_heap w1 g _ #[a0, a1, a2, a3, a4] t (0, 0) hg
  simp [World.cell?, h]
/-- where Decode has its variables -/
structure D5 (w W : World) (B4 B7 : Nat) (x : MI) : Prop where
  h4 : W.heap[B4]? = some (.cells #[.int .i64 x.op, .int .i64 x.d, .int .i64 x.a, .int .i64 x.b, .int .i64 x.m] 26 (0, 0))
  h7 : W.heap[B7]? = some (.cells #[.int .u64 0, .int .u64 0] 66 (0, 0))
  bl : Below w.heap.size w W
  le : w.heap.size ≤ B4
  lt : B4 < B7
theorem d5_of {w w1 : World} {x : MI} {Z : Array Value} {Y : Obj} (hb : Below (w.alloc (.cells Z 26)).heap.size (w.alloc (.cells Z 26)) w1) (hY : Y = .cells #[.int .u64 0, .int .u64 0] 66) :
    D5 w ((w1.setRow w.heap.size #[.int .i64 x.op, .int .i64 x.d, .int .i64 x.a, .int .i64 x.b, .int .i64 x.m]).alloc Y) w.heap.size w1.heap.size x := by
  subst hY
  have hs : w.heap.size + 1 ≤ w1.heap.size := by have := hb.size; simp at this; exact this
  have hg : w1.heap[w.heap.size]? = some (.cells Z 26 (0, 0)) := (hb.block w.heap.size (by simp)).trans (heap_alloc_new w _)
  obtain ⟨h1, h2, h3⟩ := set_facts #[.int .i64 x.op, .int .i64 x.d, .int .i64 x.a, .int .i64 x.b, .int .i64 x.m] hg
  have hb0 : Below w.heap.size w w1 := ((Below.refl _ w).alloc (Nat.le_refl _) _).trans (hb.mono (by simp))
  generalize w1.setRow w.heap.size #[.int .i64 x.op, .int .i64 x.d, .int .i64 x.a, .int .i64 x.b, .int .i64 x.m] = W at *
  refine ⟨?_, ?_, (hb0.trans h2).alloc (by omega) _, Nat.le_refl _, by omega⟩
  · exact (Below.heap_alloc W _ _ (by omega)).trans h1
  · rw [← h3]; exact heap_alloc_new W _
theorem sl_len {ws : List Int} {at_ : Nat} (h : (gnx ws at_).2 ≤ ws.length) : (sl ws at_).length = (gnx ws at_).2 - at_ := by unfold sl; simp; omega
theorem sl_get {ws : List Int} {at_ k : Nat} (hk : k < (gnx ws at_).2 - at_) : (sl ws at_).getD k 0 = ws.getD (at_ + k) 0 := by
  unfold sl; simp [List.getD, List.getElem?_take, List.getElem?_drop, hk]
theorem row5 {W : World} {B : Nat} {x : MI} (h : W.heap[B]? = some (.cells #[.int .i64 x.op, .int .i64 x.d, .int .i64 x.a, .int .i64 x.b, .int .i64 x.m] 26 (0, 0))) :
    W.cell? ⟨B, 0, none⟩ = some (.int .i64 x.op) ∧ W.cell? ⟨B, 1, none⟩ = some (.int .i64 x.d) ∧ W.cell? ⟨B, 2, none⟩ = some (.int .i64 x.a) ∧ W.cell? ⟨B, 3, none⟩ = some (.int .i64 x.b) ∧ W.cell? ⟨B, 4, none⟩ = some (.int .i64 x.m) := by
  simp [World.cell?, h]
theorem keep7 {W w' W3 : World} {B4 B7 : Nat} {v0 v1 v2 v3 v4 : Value} (hb : Below B7 W w') (h : W.cell? ⟨B4, 0, none⟩ = some v0 ∧ W.cell? ⟨B4, 1, none⟩ = some v1 ∧ W.cell? ⟨B4, 2, none⟩ = some v2 ∧ W.cell? ⟨B4, 3, none⟩ = some v3 ∧ W.cell? ⟨B4, 4, none⟩ = some v4 ∧ Below B7 W3 W) (hlt : B4 < B7) :
    w'.cell? ⟨B4, 0, none⟩ = some v0 ∧ w'.cell? ⟨B4, 1, none⟩ = some v1 ∧ w'.cell? ⟨B4, 2, none⟩ = some v2 ∧ w'.cell? ⟨B4, 3, none⟩ = some v3 ∧ w'.cell? ⟨B4, 4, none⟩ = some v4 ∧ Below B7 W3 w' :=
  ⟨(hb.cell (p := ⟨B4, 0, none⟩) hlt).trans h.1, (hb.cell (p := ⟨B4, 1, none⟩) hlt).trans h.2.1, (hb.cell (p := ⟨B4, 2, none⟩) hlt).trans h.2.2.1, (hb.cell (p := ⟨B4, 3, none⟩) hlt).trans h.2.2.2.1, (hb.cell (p := ⟨B4, 4, none⟩) hlt).trans h.2.2.2.2.1, h.2.2.2.2.2.trans hb⟩
theorem sb7 {a b c d e : Prop} {B7 : Nat} {w w' : World} (h : a ∧ b ∧ c ∧ d ∧ e ∧ Below B7 w w') : Below B7 w w' := h.2.2.2.2.2
/-- Valid, in Decode -/
theorem c9_of {w W : World} {B4 B7 : Nat} {x : MI} (hL : Laid w) (h : D5 w W B4 B7 x) (hf : x.fits) (b : Bool) (hb : (x.ok ∧ b = true) ∨ (¬ x.ok ∧ b = false)) (w1 : World) (h1 : Below B7 W w1) :
    Calls Tryd.prog 9 #[.agg #[.int .i64 x.op, .int .i64 x.d, .int .i64 x.a, .int .i64 x.b, .int .i64 x.m]] w1 fun e w' => e = .returned (.bool b) ∧ Below B7 w1 w' ∧ w'.heap[B7]? = w1.heap[B7]? := by
  have hL1 : Laid w1 := hL.below (h.bl.trans (h1.mono (by have := h.le; have := h.lt; omega)))
  have hlt : B7 < w1.heap.size := Nat.lt_of_lt_of_le (blk_lt h.h7) h1.size
  rcases hb with ⟨hx, rfl⟩ | ⟨hx, rfl⟩
  · exact (v9_t hL1 hf hx).mono fun e w' k => ⟨k.1, k.2.mono (Nat.le_of_lt hlt), k.2.block B7 hlt⟩
  · exact (v9_f hL1 hf hx).mono fun e w' k => ⟨k.1, k.2.mono (Nat.le_of_lt hlt), k.2.block B7 hlt⟩
set_option maxRecDepth 100000 in
set_option maxHeartbeats 4000000 in
theorem dec_prog {A : Option Addr} {n c at_ : Nat} {ws : List Int} {w : World} (hL : Laid w) (hO : Rows1 w A n c ws) (hn : n ≤ 400) (hlt : at_ < n) :
    Calls Tryd.prog 14 #[.slice A n c, .int .i64 at_] w fun e w' => e = .returned (decV ws at_) ∧ Below w.heap.size w w' := by
  obtain ⟨B, o, rfl, hB, hget⟩ := hO.at (by omega)
  have hcap := hO.cap
  have hf := gnx_fits hO hlt
  obtain ⟨hx1, hx2, hx3⟩ := gnx_next hO hlt
  have hsl := sl_len (ws := ws) (at_ := at_) (by rw [hO.len]; exact hx2)
  have hsg := fun k hk => sl_get (ws := ws) (at_ := at_) (k := k) hk
  have HO := Lib.hid hO
  have HL := Lib.hid hL
  have HG := Lib.hid hget
  obtain ⟨V0, hV⟩ : ∃ V0, V0 = decV ws at_ := ⟨_, rfl⟩
  rw [← hV]
  have hA := Lib.hid (show (gnx ws at_).1.ok ∧ wds (gnx ws at_).1 = sl ws at_ → V0 = .tuple #[vl (gnx ws at_).1, .int .i64 (gnx ws at_).2, .int .i64 0] from fun h => by rw [hV]; exact if_pos (show acc ws at_ from h))
  have hR := Lib.hid (show ¬ ((gnx ws at_).1.ok ∧ wds (gnx ws at_).1 = sl ws at_) → V0 = .tuple #[vl MI0, .int .i64 0, .int .i64 6] from fun h => by rw [hV]; exact if_neg (show ¬ acc ws at_ from h))
  clear hO hL hV hget
  go_enter Tryd.func14, Tryd.ntmps14
  go_wp2_with fail
  refine (guess_calls (HO.out.later ((Below.refl _ _).alloc (Nat.le_refl _) _)) hlt hn).mono ?_
  rintro e w1 ⟨rfl, hb1⟩
  have hg : w1.heap[w.heap.size]? = some (.cells #[.int .i64 0, .int .i64 0, .int .i64 0, .int .i64 0, .int .i64 0] 26 (0, 0)) := (hb1.block w.heap.size (by simp)).trans (heap_alloc_new w _)
  have HD := Lib.hid (fun x => d5_of (x := x) hb1 rfl)
  generalize (gnx ws at_).1 = x at *
  generalize (gnx ws at_).2 = nx at *
  generalize hS : sl ws at_ = S at *
  simp only [vl]
  obtain ⟨hfz, g0, g1, g2, g3, g4⟩ := free5 hg
  have z0 := hfz 0 (by decide)
  have z1 := hfz 1 (by decide)
  have z2 := hfz 2 (by decide)
  have z3 := hfz 3 (by decide)
  have z4 := hfz 4 (by decide)
  have hch := chain5 (a0 := .int .i64 x.op) (a1 := .int .i64 x.d) (a2 := .int .i64 x.a) (a3 := .int .i64 x.b) (a4 := .int .i64 x.m) hg
  clear hfz
  go_wp2_with fail
  have hD := HD.out x
  have hd0 : Below w1.heap.size w1 (w1.setRow w.heap.size #[.int .i64 x.op, .int .i64 x.d, .int .i64 x.a, .int .i64 x.b, .int .i64 x.m]) → True := fun _ => trivial
  clear g0 g1 g2 g3 g4 z0 z1 z2 z3 z4 hch hg hb1 hd0 HD
  generalize (w1.setRow w.heap.size #[.int .i64 x.op, .int .i64 x.d, .int .i64 x.a, .int .i64 x.b, .int .i64 x.m]).alloc (.cells #[.int .u64 0, .int .u64 0] 66) = W3 at *
  generalize w1.heap.size = B7 at *
  have hlt7 : w.heap.size < B7 := hD.lt
  generalize hB4 : w.heap.size = B4 at *
  obtain ⟨r0, r1, r2, r3, r4⟩ := row5 hD.h4
  have hadd := add_none B o at_
  have hcode : ∀ w', Below B7 W3 w' → ∀ k, k < n → w'.cell? ⟨B, o + k, none⟩ = some (.int .u64 (ws.getD k 0)) := fun w' h k hk =>
    ((hD.bl.trans (h.mono (by omega))).cell (p := ⟨B, o + k, none⟩) (by show B < w.heap.size; omega)).trans (HG.out k hk)
  by_cases hok : x.ok
  · have c9 := c9_of HL.out hD hf true (Or.inl ⟨hok, rfl⟩)
    have c27 := fun (W : World) (h : W.heap[B7]? = W3.heap[B7]?) => words_arr (w := W) (B := B7) x hok (h.trans hD.h7)
    have c30 : ∀ (W : World), Below B7 W3 W → (∀ k, k < (wds x).length → W.cell? ⟨B7, 0 + k, none⟩ = some (.int .u64 ((wds x).getD k 0))) →
        Calls Tryd.prog 30 #[.slice (some ⟨B7, 0, none⟩) (wds x).length 2, .slice (some ⟨B, o + at_, none⟩) (nx - at_) (c - at_)] W fun e w' => e = .returned (.bool (decide (wds x = S))) ∧ Below B7 W w' := by
      intro W h1 h2
      have h3 : B7 < W.heap.size := Nat.lt_of_lt_of_le (blk_lt hD.h7) h1.size
      have hm : ∀ e w', Bo W (decide (wds x = S)) e w' → e = .returned (.bool (decide (wds x = S))) ∧ Below B7 W w' := fun e w' h => ⟨h.1, h.2.mono (by omega)⟩
      by_cases hl : (wds x).length = nx - at_
      · rw [← hl]
        have hw := (wds_len x).2
        refine (equal_words (n := (wds x).length) (l1 := wds x) (l2 := S) (o2 := o + at_) rfl (by rw [hsl, hl]) hw h2 fun k hk => ?_).mono hm
        rw [hsg k (by omega), Nat.add_assoc]
        exact hcode W h1 (at_ + k) (by omega)
      · have hne : ¬ wds x = S := fun h => hl (by rw [h, hsl])
        rw [decide_eq_false hne] at hm ⊢
        exact (equal_len hl).mono hm
    have hd0 : W3.drew.cell? ⟨B4, 0, none⟩ = some (.int .i64 x.op) := r0
    have hd1 : W3.drew.cell? ⟨B4, 1, none⟩ = some (.int .i64 x.d) := r1
    have hd2 : W3.drew.cell? ⟨B4, 2, none⟩ = some (.int .i64 x.a) := r2
    have hd3 : W3.drew.cell? ⟨B4, 3, none⟩ = some (.int .i64 x.b) := r3
    have hd4 : W3.drew.cell? ⟨B4, 4, none⟩ = some (.int .i64 x.m) := r4
    have hd5 : Below B7 W3 W3.drew := (Below.refl _ _).drew
    have hd6 : W3.drew.heap[B7]? = W3.heap[B7]? := rfl
    have y0 : (0 : Int) ≤ (at_ : Int) := by omega
    have y1 : (at_ : Int) ≤ (nx : Int) := by omega
    have y2 : (nx : Int) ≤ (c : Int) := by omega
    have y3 : at_ ≤ nx := by omega
    have y4 : nx ≤ c := by omega
    go_region_held3 (fun w' => w'.cell? ⟨B4, 0, none⟩ = some (.int .i64 x.op) ∧ w'.cell? ⟨B4, 1, none⟩ = some (.int .i64 x.d) ∧ w'.cell? ⟨B4, 2, none⟩ = some (.int .i64 x.a) ∧ w'.cell? ⟨B4, 3, none⟩ = some (.int .i64 x.b) ∧ w'.cell? ⟨B4, 4, none⟩ = some (.int .i64 x.m) ∧ Below B7 W3 w')
      (first | exact keep7 (by assumption) (by assumption) hlt7 | (refine ⟨?_, ?_, ?_, ?_, ?_, ?_⟩ <;> first | assumption | go_keep) | go_keep)
      (first
        | (go_at_call 9; refine (c9 _ (by first | assumption | exact sb7 (by assumption))).mono ?_; rintro e w' ⟨rfl, hk9, h79⟩)
        | (go_at_call 27; refine (c27 _ (by first | exact h79.trans hd6 | assumption)).mono ?_; rintro e w' ⟨rfl, hc27, hk27⟩)
        | (go_at_call 30; refine (c30 _ (sb7 (by assumption)) hc27).mono ?_; rintro e w' ⟨rfl, hk30⟩))
    all_goals
      rename_i hSS
      have hb := sb7 hSS
      have hg := (hb.block B4 hlt7).trans hD.h4
      clear hSS
      obtain ⟨hfz, g0, g1, g2, g3, g4⟩ := free5 hg
      have z0 := hfz 0 (by decide)
      have z1 := hfz 1 (by decide)
      have z2 := hfz 2 (by decide)
      have z3 := hfz 3 (by decide)
      have z4 := hfz 4 (by decide)
      by_cases hq : wds x = S
      · rw [decide_eq_true hq]
        have hch := chain5 (a0 := .int .i64 x.op) (a1 := .int .i64 x.d) (a2 := .int .i64 x.a) (a3 := .int .i64 x.b) (a4 := .int .i64 x.m) hg
        obtain ⟨q0, q1, q2, q3, q4⟩ := after5 (a0 := .int .i64 x.op) (a1 := .int .i64 x.d) (a2 := .int .i64 x.a) (a3 := .int .i64 x.b) (a4 := .int .i64 x.m) hg
        have hfb := Lib.hid ((hD.bl.trans (hb.mono (by omega))).trans ((set_facts #[.int .i64 x.op, .int .i64 x.d, .int .i64 x.a, .int .i64 x.b, .int .i64 x.m] hg).2.1.mono (by omega)))
        clear hb hg hfz
        go_wp2_with fail
        refine bodyPost_ret (v := .tuple #[.agg #[.int .i64 x.op, .int .i64 x.d, .int .i64 x.a, .int .i64 x.b, .int .i64 x.m], .int .i64 nx, .int .i64 0]) (by simp [results, Tryd.results14, go_sem, *]) rfl ⟨by rw [hA.out ⟨hok, hq⟩]; rfl, by first | exact hfb.out | (have h := hfb.out; rw [hB4] at h; exact h)⟩
      · rw [decide_eq_false hq]
        have hch := chain5 (a0 := .int .i64 0) (a1 := .int .i64 0) (a2 := .int .i64 0) (a3 := .int .i64 0) (a4 := .int .i64 0) hg
        obtain ⟨q0, q1, q2, q3, q4⟩ := after5 (a0 := .int .i64 0) (a1 := .int .i64 0) (a2 := .int .i64 0) (a3 := .int .i64 0) (a4 := .int .i64 0) hg
        have hfb := Lib.hid ((hD.bl.trans (hb.mono (by omega))).trans ((set_facts #[.int .i64 0, .int .i64 0, .int .i64 0, .int .i64 0, .int .i64 0] hg).2.1.mono (by omega)))
        clear hb hg hfz
        go_wp2_with fail
        refine bodyPost_ret (v := .tuple #[.agg #[.int .i64 0, .int .i64 0, .int .i64 0, .int .i64 0, .int .i64 0], .int .i64 0, .int .i64 6]) (by simp [results, Tryd.results14, go_sem, *]) rfl ⟨by rw [hR.out (fun h => hq h.2)]; rfl, by first | exact hfb.out | (have h := hfb.out; rw [hB4] at h; exact h)⟩
  · have c9 := c9_of HL.out hD hf false (Or.inr ⟨hok, rfl⟩)
    have hd0 : W3.drew.cell? ⟨B4, 0, none⟩ = some (.int .i64 x.op) := r0
    have hd1 : W3.drew.cell? ⟨B4, 1, none⟩ = some (.int .i64 x.d) := r1
    have hd2 : W3.drew.cell? ⟨B4, 2, none⟩ = some (.int .i64 x.a) := r2
    have hd3 : W3.drew.cell? ⟨B4, 3, none⟩ = some (.int .i64 x.b) := r3
    have hd4 : W3.drew.cell? ⟨B4, 4, none⟩ = some (.int .i64 x.m) := r4
    have hd5 : Below B7 W3 W3.drew := (Below.refl _ _).drew
    have hd6 : W3.drew.heap[B7]? = W3.heap[B7]? := rfl
    refine wp_region_held_drew (S := (fun w' => w'.cell? ⟨B4, 0, none⟩ = some (.int .i64 x.op) ∧ w'.cell? ⟨B4, 1, none⟩ = some (.int .i64 x.d) ∧ w'.cell? ⟨B4, 2, none⟩ = some (.int .i64 x.a) ∧ w'.cell? ⟨B4, 3, none⟩ = some (.int .i64 x.b) ∧ w'.cell? ⟨B4, 4, none⟩ = some (.int .i64 x.m) ∧ Below B7 W3 w')) (by kernel_rfl) ⟨hd0, hd1, hd2, hd3, hd4, hd5⟩ (fun hHeld => ?_)
    refine wpAnyH_take (i := 0) (oi := { dst := some 23, op := Op.load 26 (Operand.tmp 4), type := 26, pos := "target.go:53", after := #[], guard := none }) (v := .agg #[.int .i64 x.op, .int .i64 x.d, .int .i64 x.a, .int .i64 x.b, .int .i64 x.m]) rfl (by kernel_rfl) (by kernel_rfl) (by kernel_rfl) (fun _ _ _ h => h) (Or.inl ⟨by rfl, by (intro w hSw; obtain ⟨y0, y1, y2, y3, y4, y5⟩ := hSw; go_simp)⟩) (by assumption) ?_
    try simp only [Act.put, List.setIfInBounds_toArray, List.set_cons_zero, List.set_cons_succ]
    refine wpAnyH_ready (rs := [1]) (by kernel_rfl) (by simp) ?_
    refine AllReadyH.cons (o := { dst := some 24, op := Op.call { callee := Callee.value (Operand.func 9), args := #[Operand.tmp 23], argTypes := #[26] }, type := 4, pos := "target.go:53", after := #[{ on := 0, ground := Ground.data }], guard := none }) rfl (fun K hK => ?_) AllReadyH.nil
    go_simp
    go_at_call 9
    refine (c9 _ hd5).mono ?_
    rintro e w' ⟨rfl, hk9, h79⟩
    refine hK.out _ _ (keep7 hk9 ⟨hd0, hd1, hd2, hd3, hd4, hd5⟩ hlt7) (fun hSS => ?_)
    clear hK K hHeld
    refine wpAnyH_take (i := 2) (oi := { dst := some 25, op := Op.unOp UnOp.not 4 (Operand.tmp 24), type := 4, pos := "target.go:53", after := #[{ on := 1, ground := Ground.data }], guard := none }) (v := .bool true) rfl (by kernel_rfl) (by kernel_rfl) (by kernel_rfl) (fun _ _ _ h => h) (Or.inl ⟨by rfl, by (intro w hSw; go_simp)⟩) (by assumption) ?_
    try simp only [Act.put, List.setIfInBounds_toArray, List.set_cons_zero, List.set_cons_succ]
    refine wpAnyH_take (i := 3) (oi := { dst := some 26, op := Op.move (Operand.tmp 25), type := 4, pos := "target.go:53", after := #[{ on := 2, ground := Ground.data }, { on := 1, ground := Ground.chain }], guard := none }) (v := .bool true) rfl (by kernel_rfl) (by kernel_rfl) (by kernel_rfl) (fun _ _ _ h => h) (Or.inl ⟨by rfl, by (intro w hSw; go_simp)⟩) (by assumption) ?_
    try simp only [Act.put, List.setIfInBounds_toArray, List.set_cons_zero, List.set_cons_succ]
    refine wpAnyH_take (i := 4) (oi := { dst := some 27, op := Op.slice 66 (Operand.tmp 7) none (some (Operand.const (Value.int IntKind.i64 0))) none, type := 27, pos := "target.go:53", after := #[{ on := 3, ground := Ground.guard }], guard := some (3, false) }) (v := undef) rfl (by kernel_rfl) (by kernel_rfl) (by kernel_rfl) (fun _ _ _ h => h) (Or.inr ⟨by rfl, rfl⟩) (by assumption) ?_
    try simp only [Act.put, List.setIfInBounds_toArray, List.set_cons_zero, List.set_cons_succ]
    refine wpAnyH_take (i := 5) (oi := { dst := some 28, op := Op.load 26 (Operand.tmp 4), type := 26, pos := "target.go:53", after := #[{ on := 3, ground := Ground.guard }], guard := some (3, false) }) (v := undef) rfl (by kernel_rfl) (by kernel_rfl) (by kernel_rfl) (fun _ _ _ h => h) (Or.inr ⟨by rfl, rfl⟩) (by assumption) ?_
    try simp only [Act.put, List.setIfInBounds_toArray, List.set_cons_zero, List.set_cons_succ]
    refine wpAnyH_take (i := 6) (oi := { dst := some 29, op := Op.call { callee := Callee.value (Operand.func 27), args := #[Operand.tmp 27, Operand.tmp 28], argTypes := #[27, 26] }, type := 27, pos := "target.go:53", after := #[{ on := 4, ground := Ground.data }, { on := 5, ground := Ground.data }, { on := 3, ground := Ground.chain }, { on := 3, ground := Ground.guard }], guard := some (3, false) }) (v := undef) rfl (by kernel_rfl) (by kernel_rfl) (by kernel_rfl) (fun _ _ _ h => h) (Or.inr ⟨by rfl, rfl⟩) (by assumption) ?_
    try simp only [Act.put, List.setIfInBounds_toArray, List.set_cons_zero, List.set_cons_succ]
    refine wpAnyH_take (i := 7) (oi := { dst := some 30, op := Op.move (Operand.tmp 0), type := 27, pos := "target.go:53", after := #[{ on := 3, ground := Ground.guard }], guard := some (3, false) }) (v := undef) rfl (by kernel_rfl) (by kernel_rfl) (by kernel_rfl) (fun _ _ _ h => h) (Or.inr ⟨by rfl, rfl⟩) (by assumption) ?_
    try simp only [Act.put, List.setIfInBounds_toArray, List.set_cons_zero, List.set_cons_succ]
    refine wpAnyH_take (i := 8) (oi := { dst := some 31, op := Op.move (Operand.tmp 1), type := 3, pos := "target.go:53", after := #[{ on := 3, ground := Ground.guard }], guard := some (3, false) }) (v := undef) rfl (by kernel_rfl) (by kernel_rfl) (by kernel_rfl) (fun _ _ _ h => h) (Or.inr ⟨by rfl, rfl⟩) (by assumption) ?_
    try simp only [Act.put, List.setIfInBounds_toArray, List.set_cons_zero, List.set_cons_succ]
    refine wpAnyH_take (i := 9) (oi := { dst := some 32, op := Op.move (Operand.tmp 5), type := 3, pos := "target.go:53", after := #[{ on := 3, ground := Ground.guard }], guard := some (3, false) }) (v := undef) rfl (by kernel_rfl) (by kernel_rfl) (by kernel_rfl) (fun _ _ _ h => h) (Or.inr ⟨by rfl, rfl⟩) (by assumption) ?_
    try simp only [Act.put, List.setIfInBounds_toArray, List.set_cons_zero, List.set_cons_succ]
    refine wpAnyH_take (i := 10) (oi := { dst := some 33, op := Op.slice 27 (Operand.tmp 30) (some (Operand.tmp 31)) (some (Operand.tmp 32)) none, type := 27, pos := "target.go:53", after := #[{ on := 7, ground := Ground.data }, { on := 8, ground := Ground.data }, { on := 9, ground := Ground.data }, { on := 3, ground := Ground.guard }], guard := some (3, false) }) (v := undef) rfl (by kernel_rfl) (by kernel_rfl) (by kernel_rfl) (fun _ _ _ h => h) (Or.inr ⟨by rfl, rfl⟩) (by assumption) ?_
    try simp only [Act.put, List.setIfInBounds_toArray, List.set_cons_zero, List.set_cons_succ]
    refine wpAnyH_take (i := 11) (oi := { dst := some 34, op := Op.call { callee := Callee.value (Operand.func 30), args := #[Operand.tmp 29, Operand.tmp 33], argTypes := #[27, 27] }, type := 4, pos := "target.go:53", after := #[{ on := 6, ground := Ground.data }, { on := 10, ground := Ground.data }, { on := 6, ground := Ground.chain }, { on := 3, ground := Ground.guard }], guard := some (3, false) }) (v := undef) rfl (by kernel_rfl) (by kernel_rfl) (by kernel_rfl) (fun _ _ _ h => h) (Or.inr ⟨by rfl, rfl⟩) (by assumption) ?_
    try simp only [Act.put, List.setIfInBounds_toArray, List.set_cons_zero, List.set_cons_succ]
    refine wpAnyH_take (i := 12) (oi := { dst := some 35, op := Op.unOp UnOp.not 4 (Operand.tmp 34), type := 4, pos := "target.go:53", after := #[{ on := 11, ground := Ground.data }, { on := 3, ground := Ground.guard }], guard := some (3, false) }) (v := undef) rfl (by kernel_rfl) (by kernel_rfl) (by kernel_rfl) (fun _ _ _ h => h) (Or.inr ⟨by rfl, rfl⟩) (by assumption) ?_
    try simp only [Act.put, List.setIfInBounds_toArray, List.set_cons_zero, List.set_cons_succ]
    refine wpAnyH_take (i := 13) (oi := { dst := some 36, op := Op.pick (Operand.tmp 26) (Operand.const (Value.bool true)) (Operand.tmp 35), type := 4, pos := "target.go:53", after := #[{ on := 3, ground := Ground.data }, { on := 12, ground := Ground.data }], guard := none }) (v := .bool true) rfl (by kernel_rfl) (by kernel_rfl) (by kernel_rfl) (fun _ _ _ h => h) (Or.inl ⟨by rfl, by (intro w hSw; go_simp)⟩) (by assumption) ?_
    try simp only [Act.put, List.setIfInBounds_toArray, List.set_cons_zero, List.set_cons_succ]
    refine wpAnyH_done (by kernel_rfl) ?_ _
    have hb := sb7 hSS
    have hg := (hb.block B4 hlt7).trans hD.h4
    clear hSS
    obtain ⟨hfz, g0, g1, g2, g3, g4⟩ := free5 hg
    have z0 := hfz 0 (by decide)
    have z1 := hfz 1 (by decide)
    have z2 := hfz 2 (by decide)
    have z3 := hfz 3 (by decide)
    have z4 := hfz 4 (by decide)
    have hch := chain5 (a0 := .int .i64 0) (a1 := .int .i64 0) (a2 := .int .i64 0) (a3 := .int .i64 0) (a4 := .int .i64 0) hg
    obtain ⟨q0, q1, q2, q3, q4⟩ := after5 (a0 := .int .i64 0) (a1 := .int .i64 0) (a2 := .int .i64 0) (a3 := .int .i64 0) (a4 := .int .i64 0) hg
    have hfb := Lib.hid ((hD.bl.trans (hb.mono (by omega))).trans ((set_facts #[.int .i64 0, .int .i64 0, .int .i64 0, .int .i64 0, .int .i64 0] hg).2.1.mono (by omega)))
    clear hb hg hfz
    go_wp2_with fail
    refine bodyPost_ret (v := .tuple #[.agg #[.int .i64 0, .int .i64 0, .int .i64 0, .int .i64 0, .int .i64 0], .int .i64 0, .int .i64 6]) (by simp [results, Tryd.results14, go_sem, *]) rfl ⟨by rw [hR.out (fun h => hok h.1)]; rfl, by first | exact hfb.out | (have h := hfb.out; rw [hB4] at h; exact h)⟩
end Go.Proofs.YtbkojaiecgdodaaDoor
end
