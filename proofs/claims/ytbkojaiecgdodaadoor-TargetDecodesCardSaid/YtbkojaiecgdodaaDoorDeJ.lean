/- A part of the proof of TabG. -/
import Derived.Test.YtbkojaiecgdodaaDoorDeC
import Derived.RangeFuncNested
import Derived.RangeFuncBound
import Derived.RangeFuncCalls
import Derived.RangeFuncLeaves
import Derived.RangeFuncFrom
import Derived.Shelf.Abstract
import Derived.Shelf.RegionOpen
import Derived.OwnWalkIn
import Derived.TacticsInMore
import Derived.LoopNIn
import Derived.LoopIn
section
set_option linter.unusedVariables false
set_option linter.unusedSimpArgs false
namespace Go.Proofs.YtbkojaiecgdodaaDoor
open Go Go.Ev Go.RowKit
/-- from an index on all words are right -/
def okF (ws : List Int) : Nat → Nat → Prop
  | 0, _ => False
  | f + 1, k => ws.length ≤ k ∨ (acc ws k ∧ okF ws f (gnx ws k).2)
noncomputable instance (ws : List Int) (f k : Nat) : Decidable (okF ws f k) := Classical.propDecidable _
noncomputable def chkV (ws : List Int) (dn : Nat) (en : Int) : Int := if 20000 < dn then 3 else if en < 0 ∨ (ws.length : Int) < en then 2 else if okF ws (ws.length + 1) 0 then 0 else 6
theorem okF_end {ws : List Int} {f k : Nat} (h : ws.length ≤ k) : okF ws (f + 1) k := Or.inl h
theorem okF_step {ws : List Int} {f k : Nat} (h : k < ws.length) (ha : acc ws k) : okF ws (f + 1) k ↔ okF ws f (gnx ws k).2 :=
  ⟨fun g => g.elim (fun g => absurd g (by omega)) (fun g => g.2), fun g => Or.inr ⟨ha, g⟩⟩
theorem okF_no {ws : List Int} {f k : Nat} (h : k < ws.length) (ha : ¬ acc ws k) : ¬ okF ws (f + 1) k := fun g => g.elim (fun g => absurd g (by omega)) (fun g => ha g.1)
set_option maxRecDepth 100000 in
set_option maxHeartbeats 4000000 in
theorem chk_ref {A A2 : Option Addr} {n c n2 c2 : Nat} {en : Int} {ws : List Int} {w : World} (hL : Laid w) (hO : Rows1 w A n c ws) (hn : n ≤ 400) (hn2 : n2 ≤ 30000) :
    Calls Tryd.prog 17 #[.agg #[.slice A n c, .slice A2 n2 c2, .int .i64 en]] w fun e w' => e = .returned (.int .i64 (chkV ws n2 en)) ∧ Below w.heap.size w w' := by
  have hlen := hO.len
  have HO := Lib.hid hO
  have HL := Lib.hid hL
  obtain ⟨R, hR⟩ : ∃ R, R = chkV ws n2 en := ⟨_, rfl⟩
  rw [← hR]
  unfold chkV at hR
  clear hO hL
  by_cases h1 : 20000 < n2
  · rw [if_pos h1] at hR
    subst hR
    have h1' : (20000 : Int) < n2 := by omega
    go_enter Tryd.func17, Tryd.ntmps17
    go_wp2_with fail
    refine bodyPost_ret (v := .int .i64 3) (by simp [results, Tryd.results17, go_sem]) rfl ⟨rfl, (Below.refl _ _).alloc (Nat.le_refl _) _⟩
  · rw [if_neg h1, hlen] at hR
    have h1' : ¬ (20000 : Int) < n2 := by omega
    by_cases h2 : en < 0
    · rw [if_pos (Or.inl h2)] at hR
      subst hR
      go_enter Tryd.func17, Tryd.ntmps17
      go_wp2_with fail
      refine bodyPost_ret (v := .int .i64 2) (by simp [results, Tryd.results17, go_sem]) rfl ⟨rfl, (Below.refl _ _).alloc (Nat.le_refl _) _⟩
    · by_cases h3 : (n : Int) < en
      · rw [if_pos (Or.inr h3)] at hR
        subst hR
        go_enter Tryd.func17, Tryd.ntmps17
        go_wp2_with fail
        refine bodyPost_ret (v := .int .i64 2) (by simp [results, Tryd.results17, go_sem]) rfl ⟨rfl, (Below.refl _ _).alloc (Nat.le_refl _) _⟩
      · rw [if_neg (fun h => h.elim h2 h3)] at hR
        have HR := Lib.hid hR
        clear hR
        go_enter Tryd.func17, Tryd.ntmps17
        go_wp2_with fail
        have hB0 : Below w.heap.size w (w.alloc (.cells #[.slice A n c, .slice A2 n2 c2, .int .i64 en] 35)) := (Below.refl _ _).alloc (Nat.le_refl _) _
        have hW := heap_alloc_new w (.cells #[.slice A n c, .slice A2 n2 c2, .int .i64 en] 35)
        have hsz : w.heap.size < (w.alloc (.cells #[.slice A n c, .slice A2 n2 c2, .int .i64 en] 35)).heap.size := by simp
        generalize w.alloc (.cells #[.slice A n c, .slice A2 n2 c2, .int .i64 en] 35) = W0 at *
        have hcell : W0.cell? ⟨w.heap.size, 0, none⟩ = some (.slice A n c) := by simp [World.cell?, hW]
        have HB0 := Lib.hid hB0
        have HW := Lib.hid hcell
        clear hB0 hW hcell
        go_loopw [3] (fun i wr => ∃ k f : Nat, i = .int .i64 k ∧ k ≤ n ∧ n + 1 ≤ f + k ∧ Below W0.heap.size W0 wr ∧ (okF ws f k ↔ okF ws (n + 1) 0)) (fun i _ => (n - intOf i).toNat)
        case atStart => exact ⟨0, n + 1, rfl, Nat.zero_le _, by omega, Below.refl _ _, Iff.rfl⟩
        case round =>
          obtain ⟨k, f, rfl, hk, hfk, hb, hok⟩ := hrel
          have hbx := (hb.cell (p := ⟨w.heap.size, 0, none⟩) hsz).trans HW.out
          have HB := Lib.hid (HB0.out.trans (hb.mono (by omega)))
          have HBW := Lib.hid hb
          have HK := Lib.hid hok
          clear hb hok
          by_cases hlt : k < n
          · obtain ⟨f', rfl⟩ : ∃ f', f = f' + 1 := ⟨f - 1, by omega⟩
            obtain ⟨hx1, hx2, hx3⟩ := gnx_next HO.out hlt
            go_wp2_with fail
            refine (dec_ref (HL.out.below HB.out) (HO.out.later HB.out) hn hlt).mono ?_
            rintro e w2 ⟨rfl, hb2⟩
            have HB2 := Lib.hid (HB.out.trans (hb2.mono HB.out.size))
            have HBW2 := Lib.hid (HBW.out.trans (hb2.mono HBW.out.size))
            clear hb2 hbx
            by_cases ha : acc ws k
            · rw [decV_t ha]
              have hst := Lib.hid (okF_step (f := f') (by rw [hlen]; exact hlt) ha)
              clear ha
              generalize (gnx ws k).1 = x at *
              generalize (gnx ws k).2 = nx at *
              simp only [vl]
              go_wp2_with fail
              go_roundw
              case rel => exact ⟨nx, f', rfl, by omega, by omega, HBW2.out.alloc HBW2.out.size _, hst.out.symm.trans HK.out⟩
              case measure => simp [intOf]; omega
            · rw [decV_f ha]
              have hno : ¬ okF ws (n + 1) 0 := fun h => okF_no (by rw [hlen]; exact hlt) ha (HK.out.2 h)
              clear ha
              simp only [vl, MI0]
              go_wp2_with fail
              refine bodyPost_ret (v := .int .i64 6) (by simp [results, Tryd.results17, go_sem]) rfl ⟨by rw [HR.out, if_neg hno], HB2.out.alloc HB2.out.size _⟩
          · obtain rfl : k = n := by omega
            obtain ⟨f', rfl⟩ : ∃ f', f = f' + 1 := ⟨f - 1, by omega⟩
            have hyes : okF ws (k + 1) 0 := HK.out.1 (okF_end (by omega))
            go_wp2_with fail
            refine bodyPost_ret (v := .int .i64 0) (by simp [results, Tryd.results17, go_sem]) rfl ⟨by rw [HR.out, if_pos hyes], HB.out⟩
end Go.Proofs.YtbkojaiecgdodaaDoor
end
section
set_option linter.unusedVariables false
set_option linter.unusedSimpArgs false
namespace Go.Proofs.YtbkojaiecgdodaaDoor
open Go Go.Ev Go.RowKit Go.Shelf
attribute [local go_sem] Oper.semAt_some
abbrev It := MI × Int
def encI (x : It) : Array Value := #[.agg #[.int .i64 x.1.op, .int .i64 x.1.d, .int .i64 x.1.a, .int .i64 x.1.b, .int .i64 x.1.m], .int .i64 x.2]
def allSeen (ws : List Int) (n : Nat) (xs : List It) : Prop := ((∀ p ∈ xs, p.2 = 0) ∧ okF ws (n + 1) 0) ∨ ((∃ p ∈ xs, p.2 = 6) ∧ ¬ okF ws (n + 1) 0)
def partSeen (ws : List Int) (n : Nat) (xs : List It) : Prop := ∀ p ∈ xs, p.2 = 0 ∨ (p.2 = 6 ∧ ¬ okF ws (n + 1) 0)
theorem grown_of_below {w w' : World} (h : Below w.heap.size w w') : w.grownBy w' none := ⟨h.os, h.tape, h.output, h.size, fun k hk _ => h.block k hk⟩
set_option maxRecDepth 100000 in
set_option maxHeartbeats 4000000 in
theorem it46 {A : Option Addr} {n c : Nat} {ws : List Int} {w : World} (hL : Laid w) (hO : Rows1 w A n c ws) (hn : n ≤ 400) {n₀ Bn : Nat} (m : Nat) (hw : w.heap.size ≤ n₀) (hBn : Bn < n₀) {w1 : World} (hb1 : Below w.heap.size w w1) (hc1 : w1.cell? ⟨Bn, 0, none⟩ = some (.slice A n c)) (h1 : n₀ ≤ w1.heap.size) :
    SeqStopsK Fence.wide m Tryd.prog 46 #[.pointer (some ⟨Bn, 0, none⟩)] encI (Below n₀) (allSeen ws n) (partSeen ws n) (n + 1) w1 := by
  intro l J Jx W hW hJ hJx hY h0
  have hlen := hO.len
  have HO := Lib.hid hO
  have HL := Lib.hid hL
  have HW := Lib.hid (hb1.trans (hW.mono (by omega)))
  have hcW := Lib.hid ((hW.cell (p := ⟨Bn, 0, none⟩) (by show Bn < _; omega)).trans hc1)
  have hsz : n₀ ≤ W.heap.size := Nat.le_trans h1 hW.size
  have HY := Lib.hid hY
  have HJ := Lib.hid hJ
  clear hO hL hb1 hW hc1 hY hJ hJx
  refine callsIn_of_wp Tryd.func46 rfl trivial ?_ rfl
  simp only [Tryd.ntmps46, List.size_toArray, List.length_cons, List.length_nil, Nat.reduceAdd, Nat.reduceSub, Array.replicate_succ, Array.replicate_zero, List.push_toArray, List.append_toArray, List.nil_append, List.cons_append]
  gi_wp2
  gi_loopw [3] (fun i wr => ∃ (k f : Nat) (pre : List It), i = .int .i64 k ∧ k ≤ n ∧ n + 1 ≤ f + k ∧ (okF ws f k ↔ okF ws (n + 1) 0) ∧ pre.length ≤ k ∧ (∀ p ∈ pre, p.2 = 0) ∧ J pre wr ∧ Below n₀ W wr ∧ n₀ ≤ wr.heap.size) (fun i _ => (n - intOf i).toNat)
  case atStart => exact ⟨0, n + 1, [], rfl, Nat.zero_le _, by omega, Iff.rfl, Nat.le_refl _, (fun _ h => nomatch h), h0, Below.refl _ _, hsz⟩
  case round =>
    obtain ⟨k, f, pre, rfl, hk, hfk, hok, hpl, hp0, hJp, hb, hsr⟩ := hrel
    have hbx := (hb.cell (p := ⟨Bn, 0, none⟩) hBn).trans hcW.out
    have HB := Lib.hid (HW.out.trans (hb.mono hw))
    have HBW := Lib.hid hb
    have HK := Lib.hid hok
    have HP := Lib.hid hp0
    have HJp := Lib.hid hJp
    clear hb hok hp0 hJp
    by_cases hlt : k < n
    · obtain ⟨f', rfl⟩ : ∃ f', f = f' + 1 := ⟨f - 1, by omega⟩
      obtain ⟨hx1, hx2, hx3⟩ := gnx_next HO.out hlt
      gi_wp2_with (gi_at_call 14; fail)
      refine ⟨trivial, (fun h => by cases h), (callsIn_wide.2 (dec_prog (HL.out.below HB.out) (HO.out.later HB.out) hn hlt)).mono ?_⟩
      rintro e w2 ⟨rfl, hb2⟩
      have HBW2 := Lib.hid (HBW.out.trans (hb2.mono hsr))
      have HJ2 := Lib.hid (HJ.out _ _ _ none HJp.out (grown_of_below hb2) (fun r e => by cases e))
      have hb2s := hb2.size
      clear hb2 hbx
      by_cases ha : acc ws k
      · rw [decV_t ha]
        have hst := Lib.hid (okF_step (f := f') (by rw [hlen]; exact hlt) ha)
        clear ha
        generalize (gnx ws k).1 = x at *
        generalize (gnx ws k).2 = nx at *
        simp only [vl]
        obtain ⟨fn, tmps, assign, body, hy, hR⟩ := HY.out pre (x, (0 : Int)) (w2.alloc (.cells #[.int .i64 x.op, .int .i64 x.d, .int .i64 x.a, .int .i64 x.b, .int .i64 x.m] 26)) (HJ.out _ _ _ none (HJ2.out) (World.grownBy_alloc _ _ none) (fun r e => by cases e)) (by omega)
        dsimp only [encI] at hy
        gi_wp2
        refine ⟨(fun h => by cases h), hR.mono ?_⟩
        rintro e W3 (⟨rfl, hJ3, hk3⟩ | ⟨rfl, hJx3⟩)
        · have HB3 := Lib.hid ((HBW2.out.alloc (by omega) _).trans hk3)
          have hs3 : n₀ ≤ W3.heap.size := by have := hk3.size; have := hb2s; simp at *; omega
          have HJ3 := Lib.hid hJ3
          clear hJ3 hk3 hy hR
          gi_wp2
          go_roundw
          case rel => exact ⟨nx, f', pre ++ [(x, 0)], rfl, by omega, by omega, hst.out.symm.trans HK.out, by simp; omega, (fun p hp => (List.mem_append.1 hp).elim (HP.out p) (fun h => by simp at h; rw [h])), HJ3.out, HB3.out, hs3⟩
          case measure => simp [intOf]; omega
        · gi_wp2
          refine bodyPost_ret (results_none rfl _ _ _) rfl ⟨⟨_, rfl⟩, .inr ⟨pre ++ [(x, 0)], (fun p hp => (List.mem_append.1 hp).elim (fun h => Or.inl (HP.out p h)) (fun h => by simp at h; rw [h]; exact Or.inl rfl)), hJx3⟩⟩
      · rw [decV_f ha]
        have hno : ¬ okF ws (n + 1) 0 := fun h => okF_no (by rw [hlen]; exact hlt) ha (HK.out.2 h)
        clear ha
        simp only [vl, MI0]
        obtain ⟨fn, tmps, assign, body, hy, hR⟩ := HY.out pre (MI0, (6 : Int)) (w2.alloc (.cells #[.int .i64 0, .int .i64 0, .int .i64 0, .int .i64 0, .int .i64 0] 26)) (HJ.out _ _ _ none (HJ2.out) (World.grownBy_alloc _ _ none) (fun r e => by cases e)) (by omega)
        dsimp only [encI, MI0] at hy
        gi_wp2
        refine ⟨(fun h => by cases h), hR.mono ?_⟩
        rintro e W3 (⟨rfl, hJ3, hk3⟩ | ⟨rfl, hJx3⟩)
        · gi_wp2
          refine bodyPost_ret (results_none rfl _ _ _) rfl ⟨⟨_, rfl⟩, .inl ⟨pre ++ [(MI0, 6)], Or.inr ⟨⟨(MI0, 6), by simp, rfl⟩, hno⟩, hJ3⟩⟩
        · gi_wp2
          refine bodyPost_ret (results_none rfl _ _ _) rfl ⟨⟨_, rfl⟩, .inr ⟨pre ++ [(MI0, 6)], (fun p hp => (List.mem_append.1 hp).elim (fun h => Or.inl (HP.out p h)) (fun h => by simp at h; rw [h]; exact Or.inr ⟨rfl, hno⟩)), hJx3⟩⟩
    · obtain rfl : k = n := by omega
      obtain ⟨f', rfl⟩ : ∃ f', f = f' + 1 := ⟨f - 1, by omega⟩
      have hyes : okF ws (k + 1) 0 := HK.out.1 (okF_end (by omega))
      gi_wp2
      go_end0
      exact ⟨⟨_, rfl⟩, .inl ⟨pre, Or.inl ⟨HP.out, hyes⟩, HJp.out⟩⟩
end Go.Proofs.YtbkojaiecgdodaaDoor
end
section
set_option linter.unusedVariables false
set_option linter.unusedSimpArgs false
namespace Go.Proofs.YtbkojaiecgdodaaDoor
open Go Go.Ev Go.RowKit Go.Shelf
attribute [local go_sem] Oper.semAt_some
theorem cell_of_box_l {W : World} {B : Nat} {v : Value} {t : TypeId} (h : W.heap[B]? = some (.cells #[v] t (0, 0))) : W.cell? ⟨B, 0, none⟩ = some v ∧ W.frozen? ⟨B, 0, none⟩ = false := by
  constructor <;> simp [World.cell?, World.frozen?, h]
theorem cell_new_l (W : World) (v : Value) (t : TypeId) : (W.alloc (.cells #[v] t)).cell? ⟨W.heap.size, 0, none⟩ = some v ∧ (W.alloc (.cells #[v] t)).frozen? ⟨W.heap.size, 0, none⟩ = false :=
  cell_of_box_l (World.alloc_heap_new W _)
theorem cell_alloc_l {W : World} {a : Addr} {v : Value} (o : Obj) (h : W.cell? a = some v) : (W.alloc o).cell? a = some v := cell_kept h (World.grownBy_alloc W o none) (fun r e => by cases e)
theorem frozen_alloc_l {W : World} {a : Addr} {v : Value} (o : Obj) (h : W.cell? a = some v) (hf : W.frozen? a = false) : (W.alloc o).frozen? a = false := (frozen_kept h (World.grownBy_alloc W o none) (fun r e => by cases e)).trans hf
set_option maxHeartbeats 1000000 in
theorem seq31 {A : Option Addr} {n c : Nat} {w : World} (m : Nat) :
    CallsIn Fence.wide m Tryd.prog 31 #[.slice A n c] w fun e w' => e = .returned (.func (.func 46) #[] #[.pointer (some ⟨w.heap.size, 0, none⟩)]) ∧ w' = w.alloc (.cells #[.slice A n c] 27) := by
  refine callsIn_of_wp Tryd.func31 rfl trivial ?_ rfl
  simp only [Tryd.ntmps31, List.size_toArray, List.length_cons, List.length_nil, Nat.reduceAdd, Nat.reduceSub, Array.replicate_succ, Array.replicate_zero, List.push_toArray, List.append_toArray, List.nil_append, List.cons_append]
  gi_wp2
  go_ret
  exact ⟨rfl, rfl⟩
set_option maxRecDepth 100000 in
set_option maxHeartbeats 4000000 in
theorem chk_prog0 {A A2 : Option Addr} {n c n2 c2 : Nat} {en : Int} {ws : List Int} {w : World} (hL : Laid w) (hO : Rows1 w A n c ws) (hn : n ≤ 400) (h1' : ¬ (20000 : Int) < n2) (h2 : ¬ en < 0) (h3 : ¬ (n : Int) < en) :
    Calls Tryd.prog 16 #[.agg #[.slice A n c, .slice A2 n2 c2, .int .i64 en]] w fun e w' => e = .returned (.int .i64 (if okF ws (n + 1) 0 then 0 else 6)) ∧ Below w.heap.size w w' := by
  obtain ⟨R, hR⟩ : ∃ R : Int, R = if okF ws (n + 1) 0 then 0 else 6 := ⟨_, rfl⟩
  rw [← hR]
  have HR := Lib.hid hR
  have hh1 : ¬ (20000 : Int) < n := by omega
  have hlen := hO.len
  have HO := Lib.hid hO
  have HL := Lib.hid hL
  clear hO hL hR
  refine (callsIn_wide (n := 3)).1 ?_
  refine callsIn_of_wp_marks Tryd.func16 rfl trivial ?_ rfl
  simp only [Tryd.ntmps16, List.size_toArray, List.length_cons, List.length_nil, Nat.reduceAdd, Nat.reduceSub, Array.replicate_succ, Array.replicate_zero, List.push_toArray, List.append_toArray, List.nil_append, List.cons_append]
  gi_wp2
  refine ⟨trivial, (seq31 2).mono ?_⟩
  rintro e w' ⟨rfl, rfl⟩
  gi_wp2
  have c1 := cell_new_l (w.alloc (.cells #[.slice A n c, .slice A2 n2 c2, .int .i64 en] 35)) (.int .i64 0) 28
  have c2' := cell_new_l ((w.alloc (.cells #[.slice A n c, .slice A2 n2 c2, .int .i64 en] 35)).alloc (.cells #[.int .i64 0] 28)) (.slice A n c) 27
  simp only [World.size_alloc] at c1 c2'
  have hB0 : Below w.heap.size w (((w.alloc (.cells #[.slice A n c, .slice A2 n2 c2, .int .i64 en] 35)).alloc (.cells #[.int .i64 0] 28)).alloc (.cells #[.slice A n c] 27)) := (((Below.refl _ w).alloc (Nat.le_refl _) _).alloc (by simp) _).alloc (by simp; omega) _
  refine wpIn_rangeFunc_ownF (n := 3) rfl (by decide) (gf := 46) (lb := #[.pointer (some ⟨w.heap.size + 1 + 1, 0, none⟩)]) rfl trivial (enters_of Tryd.func46 (by kernel_rfl) rfl)
    (it46 HL.out HO.out hn (n₀ := w.heap.size + 3) (Bn := w.heap.size + 1 + 1) 2 (by omega) (by omega) hB0 c2'.1 (by simp)) belowK_t (belowK_b (by simp)) (Below.refl _ _) (fun _ => rfl)
    (fun pre W => ((∀ p ∈ pre, p.2 = 0) ∧ W.cell? ⟨w.heap.size + 1, 0, none⟩ = some (.int .i64 0) ∧ W.frozen? ⟨w.heap.size + 1, 0, none⟩ = false) ∧ Below w.heap.size w W)
    (fun c pre W => (c = .ret ∧ ∃ p ∈ pre, p.2 ≠ 0 ∧ W.cell? ⟨w.heap.size + 1, 0, none⟩ = some (.int .i64 p.2)) ∧ Below w.heap.size w W)
    (OwnFrom.and (Own.from (fun s A B row hs hg hr => ⟨hs.1, cell_kept hs.2.1 hg hr, (frozen_kept hs.2.1 hg hr).trans hs.2.2⟩) _) (ownFrom_below (Nat.le_refl _) (by simp; omega)))
    (fun c => OwnFrom.and (Own.from (fun s A B row hs hg hr => ⟨hs.1, by obtain ⟨p, hp, h0, hc⟩ := hs.2; exact ⟨p, hp, h0, cell_kept hc hg hr⟩⟩) _) (ownFrom_below (Nat.le_refl _) (by simp; omega)))
    ⟨⟨(fun _ h => nomatch h), cell_alloc_l _ c1.1, frozen_alloc_l _ c1.1 c1.2⟩, hB0⟩
    (fun x => { tmps := #[.agg #[.slice A n c, .slice A2 n2 c2, .int .i64 en],
          .pointer (some ⟨w.heap.size, 0, none⟩),
          .pointer (some ⟨w.heap.size + 1, 0, none⟩), undef, .int .i64 x.2, .bool false,
          .pointer (some ⟨w.heap.size, 0, none⟩), .slice A n c, .int .i64 n,
          .bool false, .bool false, .pointer (some ⟨w.heap.size, 1, none⟩),
          .slice A2 n2 c2, .int .i64 n2, .bool false, .bool false, .bool false,
          .pointer (some ⟨w.heap.size, 2, none⟩), .int .i64 en, .bool false,
          .bool false, .pointer (some ⟨w.heap.size, 2, none⟩), .int .i64 en,
          .pointer (some ⟨w.heap.size, 0, none⟩), .slice A n c, .int .i64 n,
          .bool false, .bool false, .pointer (some ⟨w.heap.size, 0, none⟩),
          .slice A n c,
          .func (.func 46) #[] #[.pointer (some ⟨w.heap.size + 1 + 1, 0, none⟩)], .agg #[.int .i64 x.1.op, .int .i64 x.1.d, .int .i64 x.1.a, .int .i64 x.1.b, .int .i64 x.1.m], .int .i64 x.2,
          undef, undef, undef], defers := [] }) ?assign ?body ?done ?stop
  case assign =>
    intro l x W K hK
    dsimp only [encI]
    gi_wp2
    exact hK
  case body =>
    rintro l pre ⟨x, e⟩ W ⟨⟨hp, hcr, hfr⟩, hB⟩ _
    by_cases he : e = 0
    · subst he
      gi_wp2
      exact ⟨KeepsOthers.refl _, Below.refl _ _, ⟨fun p hp' => (List.mem_append.1 hp').elim (hp p) (fun h => by simp at h; rw [h]), hcr, hfr⟩, hB⟩
    · have he' : (e == 0) = false := by simpa using he
      gi_wp2
      exact ⟨KeepsOthers.setCell _ _ _, ⟨rfl, (x, e), List.mem_append.2 (.inr (by simp)), he, World.cell?_setCell_same' _ _ _ (by rw [hcr]; rfl)⟩, hB.setCell (p := ⟨w.heap.size + 1, 0, none⟩) (by simp) _⟩
  case done =>
    rintro D xs W hD hS ⟨⟨hp, hcr, hfr⟩, hB⟩ hK
    have hok : okF ws (n + 1) 0 := hS.elim (fun h => h.2) (fun h => by obtain ⟨⟨p, h1, h2⟩, _⟩ := h; have := hp p h1; omega)
    gi_wp2
    have hK' := (KeepsOthers.setCell W ⟨w.heap.size + 1, 0, none⟩ (.int .i64 0)).same D _ hK rfl
    refine ⟨by simp, .inl ⟨_, _, rfl, run_takeDeferred hK', ?_⟩⟩
    have hc5 := cell_kept (World.cell?_setCell_same' W ⟨w.heap.size + 1, 0, none⟩ (.int .i64 0) (by rw [hcr]; rfl)) (grownBy_putObj' _ D (.deferred none)) (fun r e => by cases e; exact ⟨_, hK', rfl⟩)
    refine ⟨.int .i64 0, ?_, by rw [HR.out, if_pos hok], (hB.setCell (p := ⟨w.heap.size + 1, 0, none⟩) (by simp) _).trans (belowK_b (w := w) (Nat.le_refl _) _ D _ _ (by simp at hD; omega) hK' rfl rfl)⟩
    simp [results, Tryd.f16, go_sem, hc5]
  case stop =>
    rintro D c pre W hD hpre ⟨⟨rfl, p, hp, h0, hcr⟩, hB⟩ hK
    have h6 : p.2 = 6 ∧ ¬ okF ws (n + 1) 0 := (hpre p hp).resolve_left h0
    gi_wp2
    refine ⟨by simp, .inl ⟨_, _, rfl, run_takeDeferred hK, ?_⟩⟩
    have hc5 := cell_kept hcr (grownBy_putObj' _ D (.deferred none)) (fun r e => by cases e; exact ⟨_, hK, rfl⟩)
    refine ⟨.int .i64 p.2, ?_, by rw [HR.out, if_neg h6.2, h6.1], hB.trans (belowK_b (w := w) (Nat.le_refl _) W D _ _ (by simp at hD; omega) hK rfl rfl)⟩
    simp [results, Tryd.f16, go_sem, hc5]
end Go.Proofs.YtbkojaiecgdodaaDoor
end
