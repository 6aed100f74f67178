/- A part of the proof of TacG. -/
import Derived.Test.YtbkojaiecgdodaaDoorDeC
import Derived.RangeFuncNested
import Derived.RangeFuncBound
import Derived.RangeFuncCalls
import Derived.RangeFuncLeaves
import Derived.RangeFuncFrom
import Derived.Shelf.Abstract
import Derived.Shelf.RegionOpen
import Derived.OwnWalkIn
import Derived.TacticsInMore
import Derived.LoopNIn
import Derived.LoopIn
section
set_option linter.unusedVariables false
set_option linter.unusedSimpArgs false
namespace Go.Proofs.YtbkojaiecgdodaaDoor
open Go Go.Ev Go.RowKit
/-- from an index on all words are right -/
def okF (ws : List Int) : Nat → Nat → Prop
  | 0, _ => False
  | f + 1, k => ws.length ≤ k ∨ (acc ws k ∧ okF ws f (gnx ws k).2)
noncomputable instance (ws : List Int) (f k : Nat) : Decidable (okF ws f k) := Classical.propDecidable _
noncomputable def chkV (ws : List Int) (dn : Nat) (en : Int) : Int := if 20000 < dn then 3 else if en < 0 ∨ (ws.length : Int) < en then 2 else if okF ws (ws.length + 1) 0 then 0 else 6
theorem okF_end {ws : List Int} {f k : Nat} (h : ws.length ≤ k) : okF ws (f + 1) k := Or.inl h
theorem okF_step {ws : List Int} {f k : Nat} (h : k < ws.length) (ha : acc ws k) : okF ws (f + 1) k ↔ okF ws f (gnx ws k).2 :=
  ⟨fun g => g.elim (fun g => absurd g (by omega)) (fun g => g.2), fun g => Or.inr ⟨ha, g⟩⟩
theorem okF_no {ws : List Int} {f k : Nat} (h : k < ws.length) (ha : ¬ acc ws k) : ¬ okF ws (f + 1) k := fun g => g.elim (fun g => absurd g (by omega)) (fun g => ha g.1)
set_option maxRecDepth 100000 in
set_option maxHeartbeats 4000000 in
theorem chk_ref {A A2 : Option Addr} {n c n2 c2 : Nat} {en : Int} {ws : List Int} {w : World} (hL : Laid w) (hO : Rows1 w A n c ws) (hn : n ≤ 400) (hn2 : n2 ≤ 30000) :
    Calls Tryd.prog 17 #[.agg #[.slice A n c, .slice A2 n2 c2, .int .i64 en]] w fun e w' => e = .returned (.int .i64 (chkV ws n2 en)) ∧ Below w.heap.size w w' := by
  have hlen := hO.len
  have HO := Lib.hid hO
  have HL := Lib.hid hL
  obtain ⟨R, hR⟩ : ∃ R, R = chkV ws n2 en := ⟨_, rfl⟩
  rw [← hR]
  unfold chkV at hR
  clear hO hL
  by_cases h1 : 20000 < n2
  · rw [if_pos h1] at hR
    subst hR
    have h1' : (20000 : Int) < n2 := by omega
    go_enter Tryd.func17, Tryd.ntmps17
    go_wp2_with fail
    refine bodyPost_ret (v := .int .i64 3) (by simp [results, Tryd.results17, go_sem]) rfl ⟨rfl, (Below.refl _ _).alloc (Nat.le_refl _) _⟩
  · rw [if_neg h1, hlen] at hR
    have h1' : ¬ (20000 : Int) < n2 := by omega
    by_cases h2 : en < 0
    · rw [if_pos (Or.inl h2)] at hR
      subst hR
      go_enter Tryd.func17, Tryd.ntmps17
      go_wp2_with fail
      refine bodyPost_ret (v := .int .i64 2) (by simp [results, Tryd.results17, go_sem]) rfl ⟨rfl, (Below.refl _ _).alloc (Nat.le_refl _) _⟩
    · by_cases h3 : (n : Int) < en
      · rw [if_pos (Or.inr h3)] at hR
        subst hR
        go_enter Tryd.func17, Tryd.ntmps17
        go_wp2_with fail
        refine bodyPost_ret (v := .int .i64 2) (by simp [results, Tryd.results17, go_sem]) rfl ⟨rfl, (Below.refl _ _).alloc (Nat.le_refl _) _⟩
      · rw [if_neg (fun h => h.elim h2 h3)] at hR
        have HR := Lib.hid hR
        clear hR
        go_enter Tryd.func17, Tryd.ntmps17
        go_wp2_with fail
        have hB0 : Below w.heap.size w (w.alloc (.cells #[.slice A n c, .slice A2 n2 c2, .int .i64 en] 35)) := (Below.refl _ _).alloc (Nat.le_refl _) _
        have hW := heap_alloc_new w (.cells #[.slice A n c, .slice A2 n2 c2, .int .i64 en] 35)
        have hsz : w.heap.size < (w.alloc (.cells #[.slice A n c, .slice A2 n2 c2, .int .i64 en] 35)).heap.size := by simp
        generalize w.alloc (.cells #[.slice A n c, .slice A2 n2 c2, .int .i64 en] 35) = W0 at *
        have hcell : W0.cell? ⟨w.heap.size, 0, none⟩ = some (.slice A n c) := by simp [World.cell?, hW]
        have HB0 := Lib.hid hB0
        have HW := Lib.hid hcell
        clear hB0 hW hcell
        go_loopw [3] (fun i wr => ∃ k f : Nat, i = .int .i64 k ∧ k ≤ n ∧ n + 1 ≤ f + k ∧ Below W0.heap.size W0 wr ∧ (okF ws f k ↔ okF ws (n + 1) 0)) (fun i _ => (n - intOf i).toNat)
        case atStart => exact ⟨0, n + 1, rfl, Nat.zero_le _, by omega, Below.refl _ _, Iff.rfl⟩
        case round =>
          obtain ⟨k, f, rfl, hk, hfk, hb, hok⟩ := hrel
          have hbx := (hb.cell (p := ⟨w.heap.size, 0, none⟩) hsz).trans HW.out
          have HB := Lib.hid (HB0.out.trans (hb.mono (by omega)))
          have HBW := Lib.hid hb
          have HK := Lib.hid hok
          clear hb hok
          by_cases hlt : k < n
          · obtain ⟨f', rfl⟩ : ∃ f', f = f' + 1 := ⟨f - 1, by omega⟩
            obtain ⟨hx1, hx2, hx3⟩ := gnx_next HO.out hlt
            go_wp2_with fail
            refine (dec_ref (HL.out.below HB.out) (HO.out.later HB.out) hn hlt).mono ?_
            rintro e w2 ⟨rfl, hb2⟩
            have HB2 := Lib.hid (HB.out.trans (hb2.mono HB.out.size))
            have HBW2 := Lib.hid (HBW.out.trans (hb2.mono HBW.out.size))
            clear hb2 hbx
            by_cases ha : acc ws k
            · rw [decV_t ha]
              have hst := Lib.hid (okF_step (f := f') (by rw [hlen]; exact hlt) ha)
              clear ha
              generalize (gnx ws k).1 = x at *
              generalize (gnx ws k).2 = nx at *
              simp only [vl]
              go_wp2_with fail
              go_roundw
              case rel => exact ⟨nx, f', rfl, by omega, by omega, HBW2.out.alloc HBW2.out.size _, hst.out.symm.trans HK.out⟩
              case measure => simp [intOf]; omega
            · rw [decV_f ha]
              have hno : ¬ okF ws (n + 1) 0 := fun h => okF_no (by rw [hlen]; exact hlt) ha (HK.out.2 h)
              clear ha
              simp only [vl, MI0]
              go_wp2_with fail
              refine bodyPost_ret (v := .int .i64 6) (by simp [results, Tryd.results17, go_sem]) rfl ⟨by rw [HR.out, if_neg hno], HB2.out.alloc HB2.out.size _⟩
          · obtain rfl : k = n := by omega
            obtain ⟨f', rfl⟩ : ∃ f', f = f' + 1 := ⟨f - 1, by omega⟩
            have hyes : okF ws (k + 1) 0 := HK.out.1 (okF_end (by omega))
            go_wp2_with fail
            refine bodyPost_ret (v := .int .i64 0) (by simp [results, Tryd.results17, go_sem]) rfl ⟨by rw [HR.out, if_pos hyes], HB.out⟩
end Go.Proofs.YtbkojaiecgdodaaDoor
end
section
set_option linter.unusedVariables false
set_option linter.unusedSimpArgs false
namespace Go.Proofs.YtbkojaiecgdodaaDoor
open Go Go.Ev Go.RowKit Go.Shelf
attribute [local go_sem] Oper.semAt_some
abbrev It := MI × Int
def encI (x : It) : Array Value := #[.agg #[.int .i64 x.1.op, .int .i64 x.1.d, .int .i64 x.1.a, .int .i64 x.1.b, .int .i64 x.1.m], .int .i64 x.2]
def allSeen (ws : List Int) (n : Nat) (xs : List It) : Prop := ((∀ p ∈ xs, p.2 = 0) ∧ okF ws (n + 1) 0) ∨ ((∃ p ∈ xs, p.2 = 6) ∧ ¬ okF ws (n + 1) 0)
def partSeen (ws : List Int) (n : Nat) (xs : List It) : Prop := ∀ p ∈ xs, p.2 = 0 ∨ (p.2 = 6 ∧ ¬ okF ws (n + 1) 0)
theorem grown_of_below {w w' : World} (h : Below w.heap.size w w') : w.grownBy w' none := ⟨h.os, h.tape, h.output, h.size, fun k hk _ => h.block k hk⟩
set_option maxRecDepth 100000 in
set_option maxHeartbeats 4000000 in
theorem it46 {A : Option Addr} {n c : Nat} {ws : List Int} {w : World} (hL : Laid w) (hO : Rows1 w A n c ws) (hn : n ≤ 400) {n₀ Bn : Nat} (m : Nat) (hw : w.heap.size ≤ n₀) (hBn : Bn < n₀) {w1 : World} (hb1 : Below w.heap.size w w1) (hc1 : w1.cell? ⟨Bn, 0, none⟩ = some (.slice A n c)) (h1 : n₀ ≤ w1.heap.size) :
    SeqStopsK Fence.wide m Tryd.prog 46 #[.pointer (some ⟨Bn, 0, none⟩)] encI (Below n₀) (allSeen ws n) (partSeen ws n) (n + 1) w1 := by
  intro l J Jx W hW hJ hJx hY h0
  have hlen := hO.len
  have HO := Lib.hid hO
  have HL := Lib.hid hL
  have HW := Lib.hid (hb1.trans (hW.mono (by omega)))
  have hcW := Lib.hid ((hW.cell (p := ⟨Bn, 0, none⟩) (by show Bn < _; omega)).trans hc1)
  have hsz : n₀ ≤ W.heap.size := Nat.le_trans h1 hW.size
  have HY := Lib.hid hY
  have HJ := Lib.hid hJ
  clear hO hL hb1 hW hc1 hY hJ hJx
  refine callsIn_of_wp Tryd.func46 rfl trivial ?_ rfl
  simp only [Tryd.ntmps46, List.size_toArray, List.length_cons, List.length_nil, Nat.reduceAdd, Nat.reduceSub, Array.replicate_succ, Array.replicate_zero, List.push_toArray, List.append_toArray, List.nil_append, List.cons_append]
  gi_wp2
  gi_loopw [3] (fun i wr => ∃ (k f : Nat) (pre : List It), i = .int .i64 k ∧ k ≤ n ∧ n + 1 ≤ f + k ∧ (okF ws f k ↔ okF ws (n + 1) 0) ∧ pre.length ≤ k ∧ (∀ p ∈ pre, p.2 = 0) ∧ J pre wr ∧ Below n₀ W wr ∧ n₀ ≤ wr.heap.size) (fun i _ => (n - intOf i).toNat)
  case atStart => exact ⟨0, n + 1, [], rfl, Nat.zero_le _, by omega, Iff.rfl, Nat.le_refl _, (fun _ h => nomatch h), h0, Below.refl _ _, hsz⟩
  case round =>
    obtain ⟨k, f, pre, rfl, hk, hfk, hok, hpl, hp0, hJp, hb, hsr⟩ := hrel
    have hbx := (hb.cell (p := ⟨Bn, 0, none⟩) hBn).trans hcW.out
    have HB := Lib.hid (HW.out.trans (hb.mono hw))
    have HBW := Lib.hid hb
    have HK := Lib.hid hok
    have HP := Lib.hid hp0
    have HJp := Lib.hid hJp
    clear hb hok hp0 hJp
    by_cases hlt : k < n
    · obtain ⟨f', rfl⟩ : ∃ f', f = f' + 1 := ⟨f - 1, by omega⟩
      obtain ⟨hx1, hx2, hx3⟩ := gnx_next HO.out hlt
      gi_wp2_with (gi_at_call 14; fail)
      refine ⟨trivial, (fun h => by cases h), (callsIn_wide.2 (dec_prog (HL.out.below HB.out) (HO.out.later HB.out) hn hlt)).mono ?_⟩
      rintro e w2 ⟨rfl, hb2⟩
      have HBW2 := Lib.hid (HBW.out.trans (hb2.mono hsr))
      have HJ2 := Lib.hid (HJ.out _ _ _ none HJp.out (grown_of_below hb2) (fun r e => by cases e))
      have hb2s := hb2.size
      clear hb2 hbx
      by_cases ha : acc ws k
      · rw [decV_t ha]
        have hst := Lib.hid (okF_step (f := f') (by rw [hlen]; exact hlt) ha)
        clear ha
        generalize (gnx ws k).1 = x at *
        generalize (gnx ws k).2 = nx at *
        simp only [vl]
        obtain ⟨fn, tmps, assign, body, hy, hR⟩ := HY.out pre (x, (0 : Int)) (w2.alloc (.cells #[.int .i64 x.op, .int .i64 x.d, .int .i64 x.a, .int .i64 x.b, .int .i64 x.m] 26)) (HJ.out _ _ _ none (HJ2.out) (World.grownBy_alloc _ _ none) (fun r e => by cases e)) (by omega)
        dsimp only [encI] at hy
        gi_wp2
        refine ⟨(fun h => by cases h), hR.mono ?_⟩
        rintro e W3 (⟨rfl, hJ3, hk3⟩ | ⟨rfl, hJx3⟩)
        · have HB3 := Lib.hid ((HBW2.out.alloc (by omega) _).trans hk3)
          have hs3 : n₀ ≤ W3.heap.size := by have := hk3.size; have := hb2s; simp at *; omega
          have HJ3 := Lib.hid hJ3
          clear hJ3 hk3 hy hR
          gi_wp2
          go_roundw
          case rel => exact ⟨nx, f', pre ++ [(x, 0)], rfl, by omega, by omega, hst.out.symm.trans HK.out, by simp; omega, (fun p hp => (List.mem_append.1 hp).elim (HP.out p) (fun h => by simp at h; rw [h])), HJ3.out, HB3.out, hs3⟩
          case measure => simp [intOf]; omega
        · gi_wp2
          refine bodyPost_ret (results_none rfl _ _ _) rfl ⟨⟨_, rfl⟩, .inr ⟨pre ++ [(x, 0)], (fun p hp => (List.mem_append.1 hp).elim (fun h => Or.inl (HP.out p h)) (fun h => by simp at h; rw [h]; exact Or.inl rfl)), hJx3⟩⟩
      · rw [decV_f ha]
        have hno : ¬ okF ws (n + 1) 0 := fun h => okF_no (by rw [hlen]; exact hlt) ha (HK.out.2 h)
        clear ha
        simp only [vl, MI0]
        obtain ⟨fn, tmps, assign, body, hy, hR⟩ := HY.out pre (MI0, (6 : Int)) (w2.alloc (.cells #[.int .i64 0, .int .i64 0, .int .i64 0, .int .i64 0, .int .i64 0] 26)) (HJ.out _ _ _ none (HJ2.out) (World.grownBy_alloc _ _ none) (fun r e => by cases e)) (by omega)
        dsimp only [encI, MI0] at hy
        gi_wp2
        refine ⟨(fun h => by cases h), hR.mono ?_⟩
        rintro e W3 (⟨rfl, hJ3, hk3⟩ | ⟨rfl, hJx3⟩)
        · gi_wp2
          refine bodyPost_ret (results_none rfl _ _ _) rfl ⟨⟨_, rfl⟩, .inl ⟨pre ++ [(MI0, 6)], Or.inr ⟨⟨(MI0, 6), by simp, rfl⟩, hno⟩, hJ3⟩⟩
        · gi_wp2
          refine bodyPost_ret (results_none rfl _ _ _) rfl ⟨⟨_, rfl⟩, .inr ⟨pre ++ [(MI0, 6)], (fun p hp => (List.mem_append.1 hp).elim (fun h => Or.inl (HP.out p h)) (fun h => by simp at h; rw [h]; exact Or.inr ⟨rfl, hno⟩)), hJx3⟩⟩
    · obtain rfl : k = n := by omega
      obtain ⟨f', rfl⟩ : ∃ f', f = f' + 1 := ⟨f - 1, by omega⟩
      have hyes : okF ws (k + 1) 0 := HK.out.1 (okF_end (by omega))
      gi_wp2
      go_end0
      exact ⟨⟨_, rfl⟩, .inl ⟨pre, Or.inl ⟨HP.out, hyes⟩, HJp.out⟩⟩
end Go.Proofs.YtbkojaiecgdodaaDoor
end
section
set_option linter.unusedVariables false
set_option linter.unusedSimpArgs false
namespace Go.Proofs.YtbkojaiecgdodaaDoor
open Go Go.Ev Go.RowKit Go.Shelf
attribute [local go_sem] Oper.semAt_some
theorem cell_of_box_l {W : World} {B : Nat} {v : Value} {t : TypeId} (h : W.heap[B]? = some (.cells #[v] t (0, 0))) : W.cell? ⟨B, 0, none⟩ = some v ∧ W.frozen? ⟨B, 0, none⟩ = false := by
  constructor <;> simp [World.cell?, World.frozen?, h]
theorem cell_new_l (W : World) (v : Value) (t : TypeId) : (W.alloc (.cells #[v] t)).cell? ⟨W.heap.size, 0, none⟩ = some v ∧ (W.alloc (.cells #[v] t)).frozen? ⟨W.heap.size, 0, none⟩ = false :=
  cell_of_box_l (World.alloc_heap_new W _)
theorem cell_alloc_l {W : World} {a : Addr} {v : Value} (o : Obj) (h : W.cell? a = some v) : (W.alloc o).cell? a = some v := cell_kept h (World.grownBy_alloc W o none) (fun r e => by cases e)
theorem frozen_alloc_l {W : World} {a : Addr} {v : Value} (o : Obj) (h : W.cell? a = some v) (hf : W.frozen? a = false) : (W.alloc o).frozen? a = false := (frozen_kept h (World.grownBy_alloc W o none) (fun r e => by cases e)).trans hf
set_option maxHeartbeats 1000000 in
theorem seq31 {A : Option Addr} {n c : Nat} {w : World} (m : Nat) :
    CallsIn Fence.wide m Tryd.prog 31 #[.slice A n c] w fun e w' => e = .returned (.func (.func 46) #[] #[.pointer (some ⟨w.heap.size, 0, none⟩)]) ∧ w' = w.alloc (.cells #[.slice A n c] 27) := by
  refine callsIn_of_wp Tryd.func31 rfl trivial ?_ rfl
  simp only [Tryd.ntmps31, List.size_toArray, List.length_cons, List.length_nil, Nat.reduceAdd, Nat.reduceSub, Array.replicate_succ, Array.replicate_zero, List.push_toArray, List.append_toArray, List.nil_append, List.cons_append]
  gi_wp2
  go_ret
  exact ⟨rfl, rfl⟩
set_option maxRecDepth 100000 in
set_option maxHeartbeats 4000000 in
theorem chk_prog0 {A A2 : Option Addr} {n c n2 c2 : Nat} {en : Int} {ws : List Int} {w : World} (hL : Laid w) (hO : Rows1 w A n c ws) (hn : n ≤ 400) (h1' : ¬ (20000 : Int) < n2) (h2 : ¬ en < 0) (h3 : ¬ (n : Int) < en) :
    Calls Tryd.prog 16 #[.agg #[.slice A n c, .slice A2 n2 c2, .int .i64 en]] w fun e w' => e = .returned (.int .i64 (if okF ws (n + 1) 0 then 0 else 6)) ∧ Below w.heap.size w w' := by
  obtain ⟨R, hR⟩ : ∃ R : Int, R = if okF ws (n + 1) 0 then 0 else 6 := ⟨_, rfl⟩
  rw [← hR]
  have HR := Lib.hid hR
  have hh1 : ¬ (20000 : Int) < n := by omega
  have hlen := hO.len
  have HO := Lib.hid hO
  have HL := Lib.hid hL
  clear hO hL hR
  refine (callsIn_wide (n := 3)).1 ?_
  refine callsIn_of_wp_marks Tryd.func16 rfl trivial ?_ rfl
  simp only [Tryd.ntmps16, List.size_toArray, List.length_cons, List.length_nil, Nat.reduceAdd, Nat.reduceSub, Array.replicate_succ, Array.replicate_zero, List.push_toArray, List.append_toArray, List.nil_append, List.cons_append]
  gi_wp2
  refine ⟨trivial, (seq31 2).mono ?_⟩
  rintro e w' ⟨rfl, rfl⟩
  gi_wp2
  have c1 := cell_new_l (w.alloc (.cells #[.slice A n c, .slice A2 n2 c2, .int .i64 en] 35)) (.int .i64 0) 28
  have c2' := cell_new_l ((w.alloc (.cells #[.slice A n c, .slice A2 n2 c2, .int .i64 en] 35)).alloc (.cells #[.int .i64 0] 28)) (.slice A n c) 27
  simp only [World.size_alloc] at c1 c2'
  have hB0 : Below w.heap.size w (((w.alloc (.cells #[.slice A n c, .slice A2 n2 c2, .int .i64 en] 35)).alloc (.cells #[.int .i64 0] 28)).alloc (.cells #[.slice A n c] 27)) := (((Below.refl _ w).alloc (Nat.le_refl _) _).alloc (by simp) _).alloc (by simp; omega) _
  refine wpIn_rangeFunc_ownF (n := 3) rfl (by decide) (gf := 46) (lb := #[.pointer (some ⟨w.heap.size + 1 + 1, 0, none⟩)]) rfl trivial (enters_of Tryd.func46 (by kernel_rfl) rfl)
    (it46 HL.out HO.out hn (n₀ := w.heap.size + 3) (Bn := w.heap.size + 1 + 1) 2 (by omega) (by omega) hB0 c2'.1 (by simp)) belowK_t (belowK_b (by simp)) (Below.refl _ _) (fun _ => rfl)
    (fun pre W => ((∀ p ∈ pre, p.2 = 0) ∧ W.cell? ⟨w.heap.size + 1, 0, none⟩ = some (.int .i64 0) ∧ W.frozen? ⟨w.heap.size + 1, 0, none⟩ = false) ∧ Below w.heap.size w W)
    (fun c pre W => (c = .ret ∧ ∃ p ∈ pre, p.2 ≠ 0 ∧ W.cell? ⟨w.heap.size + 1, 0, none⟩ = some (.int .i64 p.2)) ∧ Below w.heap.size w W)
    (OwnFrom.and (Own.from (fun s A B row hs hg hr => ⟨hs.1, cell_kept hs.2.1 hg hr, (frozen_kept hs.2.1 hg hr).trans hs.2.2⟩) _) (ownFrom_below (Nat.le_refl _) (by simp; omega)))
    (fun c => OwnFrom.and (Own.from (fun s A B row hs hg hr => ⟨hs.1, by obtain ⟨p, hp, h0, hc⟩ := hs.2; exact ⟨p, hp, h0, cell_kept hc hg hr⟩⟩) _) (ownFrom_below (Nat.le_refl _) (by simp; omega)))
    ⟨⟨(fun _ h => nomatch h), cell_alloc_l _ c1.1, frozen_alloc_l _ c1.1 c1.2⟩, hB0⟩
    (fun x => { tmps := #[.agg #[.slice A n c, .slice A2 n2 c2, .int .i64 en],
          .pointer (some ⟨w.heap.size, 0, none⟩),
          .pointer (some ⟨w.heap.size + 1, 0, none⟩), undef, .int .i64 x.2, .bool false,
          .pointer (some ⟨w.heap.size, 0, none⟩), .slice A n c, .int .i64 n,
          .bool false, .bool false, .pointer (some ⟨w.heap.size, 1, none⟩),
          .slice A2 n2 c2, .int .i64 n2, .bool false, .bool false, .bool false,
          .pointer (some ⟨w.heap.size, 2, none⟩), .int .i64 en, .bool false,
          .bool false, .pointer (some ⟨w.heap.size, 2, none⟩), .int .i64 en,
          .pointer (some ⟨w.heap.size, 0, none⟩), .slice A n c, .int .i64 n,
          .bool false, .bool false, .pointer (some ⟨w.heap.size, 0, none⟩),
          .slice A n c,
          .func (.func 46) #[] #[.pointer (some ⟨w.heap.size + 1 + 1, 0, none⟩)], .agg #[.int .i64 x.1.op, .int .i64 x.1.d, .int .i64 x.1.a, .int .i64 x.1.b, .int .i64 x.1.m], .int .i64 x.2,
          undef, undef, undef], defers := [] }) ?assign ?body ?done ?stop
  case assign =>
    intro l x W K hK
    dsimp only [encI]
    gi_wp2
    exact hK
  case body =>
    rintro l pre ⟨x, e⟩ W ⟨⟨hp, hcr, hfr⟩, hB⟩ _
    by_cases he : e = 0
    · subst he
      gi_wp2
      exact ⟨KeepsOthers.refl _, Below.refl _ _, ⟨fun p hp' => (List.mem_append.1 hp').elim (hp p) (fun h => by simp at h; rw [h]), hcr, hfr⟩, hB⟩
    · have he' : (e == 0) = false := by simpa using he
      gi_wp2
      exact ⟨KeepsOthers.setCell _ _ _, ⟨rfl, (x, e), List.mem_append.2 (.inr (by simp)), he, World.cell?_setCell_same' _ _ _ (by rw [hcr]; rfl)⟩, hB.setCell (p := ⟨w.heap.size + 1, 0, none⟩) (by simp) _⟩
  case done =>
    rintro D xs W hD hS ⟨⟨hp, hcr, hfr⟩, hB⟩ hK
    have hok : okF ws (n + 1) 0 := hS.elim (fun h => h.2) (fun h => by obtain ⟨⟨p, h1, h2⟩, _⟩ := h; have := hp p h1; omega)
    gi_wp2
    have hK' := (KeepsOthers.setCell W ⟨w.heap.size + 1, 0, none⟩ (.int .i64 0)).same D _ hK rfl
    refine ⟨by simp, .inl ⟨_, _, rfl, run_takeDeferred hK', ?_⟩⟩
    have hc5 := cell_kept (World.cell?_setCell_same' W ⟨w.heap.size + 1, 0, none⟩ (.int .i64 0) (by rw [hcr]; rfl)) (grownBy_putObj' _ D (.deferred none)) (fun r e => by cases e; exact ⟨_, hK', rfl⟩)
    refine ⟨.int .i64 0, ?_, by rw [HR.out, if_pos hok], (hB.setCell (p := ⟨w.heap.size + 1, 0, none⟩) (by simp) _).trans (belowK_b (w := w) (Nat.le_refl _) _ D _ _ (by simp at hD; omega) hK' rfl rfl)⟩
    simp [results, Tryd.f16, go_sem, hc5]
  case stop =>
    rintro D c pre W hD hpre ⟨⟨rfl, p, hp, h0, hcr⟩, hB⟩ hK
    have h6 : p.2 = 6 ∧ ¬ okF ws (n + 1) 0 := (hpre p hp).resolve_left h0
    gi_wp2
    refine ⟨by simp, .inl ⟨_, _, rfl, run_takeDeferred hK, ?_⟩⟩
    have hc5 := cell_kept hcr (grownBy_putObj' _ D (.deferred none)) (fun r e => by cases e; exact ⟨_, hK, rfl⟩)
    refine ⟨.int .i64 p.2, ?_, by rw [HR.out, if_neg h6.2, h6.1], hB.trans (belowK_b (w := w) (Nat.le_refl _) W D _ _ (by simp at hD; omega) hK rfl rfl)⟩
    simp [results, Tryd.f16, go_sem, hc5]
end Go.Proofs.YtbkojaiecgdodaaDoor
end
section
set_option linter.unusedVariables false
set_option linter.unusedSimpArgs false
namespace Go.Proofs.YtbkojaiecgdodaaDoor
open Go Go.Ev Go.RowKit
section
variable {A A2 : Option Addr} {n c n2 c2 : Nat} {en : Int} {ws : List Int} {w : World}
set_option maxRecDepth 100000 in
set_option maxHeartbeats 2000000 in
theorem chk_p3 (hn : n ≤ 400) (h1 : (20000 : Int) < n2) : Calls Tryd.prog 16 #[.agg #[.slice A n c, .slice A2 n2 c2, .int .i64 en]] w fun e w' => e = .returned (.int .i64 3) ∧ Below w.heap.size w w' := by
  have hh1 : ¬ (20000 : Int) < n := by omega
  go_enter Tryd.func16, Tryd.ntmps16
  go_wp2_with fail
  refine bodyPost_ret (v := .int .i64 3) (by simp [results, Tryd.results16, go_sem]) rfl ⟨rfl, ((Below.refl _ _).alloc (Nat.le_refl _) _).alloc (by simp) _⟩
set_option maxRecDepth 100000 in
set_option maxHeartbeats 2000000 in
theorem chk_p2a (hn : n ≤ 400) (h1 : ¬ (20000 : Int) < n2) (h2 : en < 0) : Calls Tryd.prog 16 #[.agg #[.slice A n c, .slice A2 n2 c2, .int .i64 en]] w fun e w' => e = .returned (.int .i64 2) ∧ Below w.heap.size w w' := by
  have hh1 : ¬ (20000 : Int) < n := by omega
  go_enter Tryd.func16, Tryd.ntmps16
  go_wp2_with fail
  refine bodyPost_ret (v := .int .i64 2) (by simp [results, Tryd.results16, go_sem]) rfl ⟨rfl, ((Below.refl _ _).alloc (Nat.le_refl _) _).alloc (by simp) _⟩
set_option maxRecDepth 100000 in
set_option maxHeartbeats 2000000 in
theorem chk_p2b (hn : n ≤ 400) (h1 : ¬ (20000 : Int) < n2) (h2 : ¬ en < 0) (h3 : (n : Int) < en) : Calls Tryd.prog 16 #[.agg #[.slice A n c, .slice A2 n2 c2, .int .i64 en]] w fun e w' => e = .returned (.int .i64 2) ∧ Below w.heap.size w w' := by
  have hh1 : ¬ (20000 : Int) < n := by omega
  go_enter Tryd.func16, Tryd.ntmps16
  go_wp2_with fail
  refine bodyPost_ret (v := .int .i64 2) (by simp [results, Tryd.results16, go_sem]) rfl ⟨rfl, ((Below.refl _ _).alloc (Nat.le_refl _) _).alloc (by simp) _⟩
theorem chk_prog (hL : Laid w) (hO : Rows1 w A n c ws) (hn : n ≤ 400) : Calls Tryd.prog 16 #[.agg #[.slice A n c, .slice A2 n2 c2, .int .i64 en]] w fun e w' => e = .returned (.int .i64 (chkV ws n2 en)) ∧ Below w.heap.size w w' := by
  unfold chkV
  rw [hO.len]
  by_cases h1 : 20000 < n2
  · rw [if_pos h1]; exact chk_p3 hn (by omega)
  · rw [if_neg h1]
    by_cases h2 : en < 0
    · rw [if_pos (Or.inl h2)]; exact chk_p2a hn (by omega) h2
    · by_cases h3 : (n : Int) < en
      · rw [if_pos (Or.inr h3)]; exact chk_p2b hn (by omega) h2 h3
      · rw [if_neg (fun h => h.elim h2 h3)]; exact chk_prog0 hL hO hn (by omega) h2 h3
/-- both answer the same -/
theorem dec_both (hL : Laid w) (hO : Rows1 w A n c ws) (hn : n ≤ 400) (i : Int) : ∃ (x : MI) (nx e : Int), ∀ W, Below w.heap.size w W →
    (Calls Tryd.prog 14 #[.slice A n c, .int .i64 i] W fun en w' => en = .returned (.tuple #[vl x, .int .i64 nx, .int .i64 e]) ∧ Below W.heap.size W w') ∧
    (Calls Tryd.prog 15 #[.slice A n c, .int .i64 i] W fun en w' => en = .returned (.tuple #[vl x, .int .i64 nx, .int .i64 e]) ∧ Below W.heap.size W w') := by
  by_cases h0 : i < 0
  · exact ⟨MI0, 0, 2, fun W hW => ⟨far14 (Or.inl h0), far15 (Or.inl h0)⟩⟩
  by_cases h1 : (n : Int) ≤ i
  · exact ⟨MI0, 0, 2, fun W hW => ⟨far14 (Or.inr ⟨h0, h1⟩), far15 (Or.inr ⟨h0, h1⟩)⟩⟩
  obtain ⟨k, rfl⟩ := Int.eq_ofNat_of_zero_le (show 0 ≤ i by omega)
  have hk : k < n := by omega
  by_cases ha : acc ws k
  · refine ⟨(gnx ws k).1, (gnx ws k).2, 0, fun W hW => ?_⟩
    have e := decV_t ha
    rw [← e]
    exact ⟨dec_prog (hL.below hW) (hO.later hW) hn hk, dec_ref (hL.below hW) (hO.later hW) hn hk⟩
  · refine ⟨MI0, 0, 6, fun W hW => ?_⟩
    have e := decV_f ha
    rw [← e]
    exact ⟨dec_prog (hL.below hW) (hO.later hW) hn hk, dec_ref (hL.below hW) (hO.later hW) hn hk⟩
set_option maxRecDepth 100000 in
set_option maxHeartbeats 8000000 in
theorem law_decodes (i : Int) (hL : Laid w) (hO : Rows1 w A n c ws) (hn : n ≤ 400) (hn2 : n2 ≤ 30000) : Calls Tryd.prog 4 #[.agg #[.slice A n c, .slice A2 n2 c2, .int .i64 en], .int .i64 i] w (Yes w) := by
  obtain ⟨x, nx, er, hb⟩ := dec_both hL hO hn i
  have c16 := fun W (h : Below w.heap.size w W) => chk_prog (A2 := A2) (n2 := n2) (c2 := c2) (en := en) (hL.below h) (hO.later h) hn
  have c17 := fun W (h : Below w.heap.size w W) => chk_ref (A2 := A2) (c2 := c2) (en := en) (hL.below h) (hO.later h) hn hn2
  have hh1 : ¬ (400 : Int) < n := by omega
  have hh2 : ¬ (30000 : Int) < n2 := by omega
  generalize chkV ws n2 en = cv at *
  have HB := Lib.hid hb
  have H16 := Lib.hid c16
  have H17 := Lib.hid c17
  have HL := Lib.hid hL
  clear hb c16 c17 hL hO
  go_enter Tryd.func4, Tryd.ntmps4
  go_wp2_with fail
  have hX := heap_alloc_new w (.cells #[.slice A n c, .slice A2 n2 c2, .int .i64 en] 35)
  have hb0 : Below w.heap.size w (w.alloc (.cells #[.slice A n c, .slice A2 n2 c2, .int .i64 en] 35)) := (Below.refl _ _).alloc (Nat.le_refl _) _
  have hs0 : w.heap.size < (w.alloc (.cells #[.slice A n c, .slice A2 n2 c2, .int .i64 en] 35)).heap.size := by simp
  generalize w.alloc (.cells #[.slice A n c, .slice A2 n2 c2, .int .i64 en] 35) = W0 at *
  refine (HB.out W0 hb0).1.mono ?_
  rintro e w1 ⟨rfl, hb1⟩
  have hX1 := (hb1.block w.heap.size hs0).trans hX
  have hB1 := hb0.trans (hb1.mono (by omega))
  have hs1 : w.heap.size < w1.heap.size := Nat.lt_of_lt_of_le hs0 hb1.size
  have i0 : w1.cell? ⟨w.heap.size, 0, none⟩ = some (.slice A n c) := by simp [World.cell?, hX1]
  have hi0 := cell_a1 i0
  have HX1 := Lib.hid hX1
  have HB1 := Lib.hid hB1
  clear hb1 hX hb0 hX1 hB1 i0
  simp only [vl]
  go_wp2_with fail
  have hX5 := heap_alloc_new w1 (.cells #[.int .i64 x.op, .int .i64 x.d, .int .i64 x.a, .int .i64 x.b, .int .i64 x.m] 26)
  have hB5 : Below w.heap.size w (w1.alloc (.cells #[.int .i64 x.op, .int .i64 x.d, .int .i64 x.a, .int .i64 x.b, .int .i64 x.m] 26)) := HB1.out.alloc (by omega) _
  have hX2 : (w1.alloc (.cells #[.int .i64 x.op, .int .i64 x.d, .int .i64 x.a, .int .i64 x.b, .int .i64 x.m] 26)).heap[w.heap.size]? = _ := (Below.heap_alloc w1 _ _ (by omega)).trans HX1.out
  have hs5 : w1.heap.size < (w1.alloc (.cells #[.int .i64 x.op, .int .i64 x.d, .int .i64 x.a, .int .i64 x.b, .int .i64 x.m] 26)).heap.size := by simp
  generalize w1.alloc (.cells #[.int .i64 x.op, .int .i64 x.d, .int .i64 x.a, .int .i64 x.b, .int .i64 x.m] 26) = W1 at *
  refine (HB.out W1 hB5).2.mono ?_
  rintro e w2 ⟨rfl, hb2⟩
  have hX52 := (hb2.block w1.heap.size hs5).trans hX5
  have hX22 := (hb2.block w.heap.size (by omega)).trans hX2
  have hB2 := hB5.trans (hb2.mono (by omega))
  have hs2 : w1.heap.size < w2.heap.size := Nat.lt_of_lt_of_le hs5 hb2.size
  clear hb2 hX5 hB5 hX2 hs5 hi0
  simp only [vl]
  go_wp2_with fail
  have hX8 := heap_alloc_new w2 (.cells #[.int .i64 x.op, .int .i64 x.d, .int .i64 x.a, .int .i64 x.b, .int .i64 x.m] 26)
  have hB3 : Below w.heap.size w (w2.alloc (.cells #[.int .i64 x.op, .int .i64 x.d, .int .i64 x.a, .int .i64 x.b, .int .i64 x.m] 26)) := hB2.alloc (by omega) _
  have hX53 : (w2.alloc (.cells #[.int .i64 x.op, .int .i64 x.d, .int .i64 x.a, .int .i64 x.b, .int .i64 x.m] 26)).heap[w1.heap.size]? = _ := (Below.heap_alloc w2 _ _ (by omega)).trans hX52
  have hX23 : (w2.alloc (.cells #[.int .i64 x.op, .int .i64 x.d, .int .i64 x.a, .int .i64 x.b, .int .i64 x.m] 26)).heap[w.heap.size]? = _ := (Below.heap_alloc w2 _ _ (by omega)).trans hX22
  have l8 : w2.heap.size < (w2.alloc (.cells #[.int .i64 x.op, .int .i64 x.d, .int .i64 x.a, .int .i64 x.b, .int .i64 x.m] 26)).heap.size := by simp
  generalize w2.alloc (.cells #[.int .i64 x.op, .int .i64 x.d, .int .i64 x.a, .int .i64 x.b, .int .i64 x.m] 26) = W3 at *
  have l5 : w1.heap.size < W3.heap.size := by omega
  have l2 : w.heap.size < W3.heap.size := by omega
  obtain ⟨r0, r1, r2, r3, r4⟩ := row5 hX53
  obtain ⟨q0, q1, q2, q3, q4⟩ := row5 hX8
  have j0 : W3.cell? ⟨w.heap.size, 0, none⟩ = some (.slice A n c) := by simp [World.cell?, hX23]
  have j1 : W3.cell? ⟨w.heap.size, 1, none⟩ = some (.slice A2 n2 c2) := by simp [World.cell?, hX23]
  have j2 : W3.cell? ⟨w.heap.size, 2, none⟩ = some (.int .i64 en) := by simp [World.cell?, hX23]
  have hB3w : ∀ W, Below W3.heap.size W3 W → Below w.heap.size w W := fun W h => hB3.trans (h.mono (by omega))
  have c16 : ∀ W, Below W3.heap.size W3 W → Calls Tryd.prog 16 #[.agg #[.slice A n c, .slice A2 n2 c2, .int .i64 en]] W fun e w' => e = .returned (.int .i64 cv) ∧ Below W3.heap.size W3 w' := fun W h => (H16.out W (hB3w W h)).mono fun e w' k => ⟨k.1, h.trans (k.2.mono h.size)⟩
  have c17 : ∀ W, Below W3.heap.size W3 W → Calls Tryd.prog 17 #[.agg #[.slice A n c, .slice A2 n2 c2, .int .i64 en]] W fun e w' => e = .returned (.int .i64 cv) ∧ Below W3.heap.size W3 w' := fun W h => (H17.out W (hB3w W h)).mono fun e w' k => ⟨k.1, h.trans (k.2.mono h.size)⟩
  have c8 : ∀ W, Below W3.heap.size W3 W → Calls Tryd.prog 8 #[] W fun e w' => e = .returned (.bool true) ∧ Below W3.heap.size W3 w' := fun W h => (awake_calls (HL.out.below (hB3w W h))).mono fun e w' k => ⟨k.1, h.trans (k.2.mono h.size)⟩
  generalize w1.heap.size = b5 at *
  generalize w2.heap.size = b8 at *
  have HF := Lib.hid hB3w
  generalize hb2 : w.heap.size = b2 at *
  have hS : ∀ w', Below W3.heap.size W3 w' → w'.cell? ⟨b5, 0, none⟩ = some (.int .i64 x.op) ∧ w'.cell? ⟨b5, 1, none⟩ = some (.int .i64 x.d) ∧ w'.cell? ⟨b5, 2, none⟩ = some (.int .i64 x.a) ∧ w'.cell? ⟨b5, 3, none⟩ = some (.int .i64 x.b) ∧ w'.cell? ⟨b5, 4, none⟩ = some (.int .i64 x.m) ∧ w'.cell? ⟨b8, 0, none⟩ = some (.int .i64 x.op) ∧ w'.cell? ⟨b8, 1, none⟩ = some (.int .i64 x.d) ∧ w'.cell? ⟨b8, 2, none⟩ = some (.int .i64 x.a) ∧ w'.cell? ⟨b8, 3, none⟩ = some (.int .i64 x.b) ∧ w'.cell? ⟨b8, 4, none⟩ = some (.int .i64 x.m) ∧ w'.cell? ⟨b2, 0, none⟩ = some (.slice A n c) ∧ w'.cell? ⟨b2, 1, none⟩ = some (.slice A2 n2 c2) ∧ w'.cell? ⟨b2, 2, none⟩ = some (.int .i64 en) ∧ Below W3.heap.size W3 w' := fun w' h => ⟨(h.cell (p := ⟨b5, 0, none⟩) l5).trans r0, (h.cell (p := ⟨b5, 1, none⟩) l5).trans r1, (h.cell (p := ⟨b5, 2, none⟩) l5).trans r2, (h.cell (p := ⟨b5, 3, none⟩) l5).trans r3, (h.cell (p := ⟨b5, 4, none⟩) l5).trans r4, (h.cell (p := ⟨b8, 0, none⟩) l8).trans q0, (h.cell (p := ⟨b8, 1, none⟩) l8).trans q1, (h.cell (p := ⟨b8, 2, none⟩) l8).trans q2, (h.cell (p := ⟨b8, 3, none⟩) l8).trans q3, (h.cell (p := ⟨b8, 4, none⟩) l8).trans q4, (h.cell (p := ⟨b2, 0, none⟩) l2).trans j0, (h.cell (p := ⟨b2, 1, none⟩) l2).trans j1, (h.cell (p := ⟨b2, 2, none⟩) l2).trans j2, h⟩
  have HS := Lib.hid hS
  have hd : Below W3.heap.size W3 W3.drew := (Below.refl _ _).drew
  clear hS r0 r1 r2 r3 r4 q0 q1 q2 q3 q4 j0 j1 j2 hX8 hX53 hX23 hB3 hX52 hX22 hB2 hB3w
  go_region_held3 (fun w' => w'.cell? ⟨b5, 0, none⟩ = some (.int .i64 x.op) ∧ w'.cell? ⟨b5, 1, none⟩ = some (.int .i64 x.d) ∧ w'.cell? ⟨b5, 2, none⟩ = some (.int .i64 x.a) ∧ w'.cell? ⟨b5, 3, none⟩ = some (.int .i64 x.b) ∧ w'.cell? ⟨b5, 4, none⟩ = some (.int .i64 x.m) ∧ w'.cell? ⟨b8, 0, none⟩ = some (.int .i64 x.op) ∧ w'.cell? ⟨b8, 1, none⟩ = some (.int .i64 x.d) ∧ w'.cell? ⟨b8, 2, none⟩ = some (.int .i64 x.a) ∧ w'.cell? ⟨b8, 3, none⟩ = some (.int .i64 x.b) ∧ w'.cell? ⟨b8, 4, none⟩ = some (.int .i64 x.m) ∧ w'.cell? ⟨b2, 0, none⟩ = some (.slice A n c) ∧ w'.cell? ⟨b2, 1, none⟩ = some (.slice A2 n2 c2) ∧ w'.cell? ⟨b2, 2, none⟩ = some (.int .i64 en) ∧ Below W3.heap.size W3 w')
    (exact HS.out _ (by assumption))
    (first
      | (go_at_call 16; refine (c16 _ (by assumption)).mono ?_; rintro e w' ⟨rfl, hk16⟩)
      | (go_at_call 17; refine (c17 _ (by assumption)).mono ?_; rintro e w' ⟨rfl, hk17⟩)
      | (go_at_call 8; refine (c8 _ (by assumption)).mono ?_; rintro e w' ⟨rfl, hk8⟩))
  all_goals
    have hfin := Lib.hid (HF.out _ (by assumption))
    go_wp2_with fail
    refine bodyPost_ret (v := .bool true) (by simp [results, Tryd.results4, go_sem]) rfl ⟨rfl, ?_⟩
    have h := hfin.out
    first | exact h | (rw [hb2]; exact h) | (rw [← hb2]; exact h) | (rw [hb2] at h; exact h)
set_option maxRecDepth 100000 in
set_option maxHeartbeats 2000000 in
theorem long_decodes (i : Int) (hL : Laid w) (h : 400 < n ∨ (¬ 400 < n ∧ 30000 < n2)) : Calls Tryd.prog 4 #[.agg #[.slice A n c, .slice A2 n2 c2, .int .i64 en], .int .i64 i] w (Yes w) := by
  have HL := Lib.hid hL
  clear hL
  rcases h with h | ⟨h, h2⟩
  · have h' : (400 : Int) < n := by omega
    go_enter Tryd.func4, Tryd.ntmps4
    go_wp2_with fail
    have hb : Below w.heap.size w (w.alloc (.cells #[.slice A n c, .slice A2 n2 c2, .int .i64 en] 35)) := (Below.refl _ _).alloc (Nat.le_refl _) _
    generalize w.alloc (.cells #[.slice A n c, .slice A2 n2 c2, .int .i64 en] 35) = W0 at *
    refine (awake_calls (HL.out.below hb)).mono ?_
    rintro e w4 ⟨rfl, hb4⟩
    have HB4 := Lib.hid (hb.trans (hb4.mono hb.size))
    clear hb4
    go_wp2_with fail
    refine bodyPost_ret (v := .bool true) (by simp [results, Tryd.results4, go_sem]) rfl ⟨rfl, HB4.out⟩
  · have h' : ¬ (400 : Int) < n := by omega
    have h2' : (30000 : Int) < n2 := by omega
    go_enter Tryd.func4, Tryd.ntmps4
    go_wp2_with fail
    have hb : Below w.heap.size w (w.alloc (.cells #[.slice A n c, .slice A2 n2 c2, .int .i64 en] 35)) := (Below.refl _ _).alloc (Nat.le_refl _) _
    generalize w.alloc (.cells #[.slice A n c, .slice A2 n2 c2, .int .i64 en] 35) = W0 at *
    refine (awake_calls (HL.out.below hb)).mono ?_
    rintro e w4 ⟨rfl, hb4⟩
    have HB4 := Lib.hid (hb.trans (hb4.mono hb.size))
    clear hb4
    go_wp2_with fail
    refine bodyPost_ret (v := .bool true) (by simp [results, Tryd.results4, go_sem]) rfl ⟨rfl, HB4.out⟩
theorem decodes_ok (i : Int) (hL : Laid w) (hO : Rows1 w A n c ws) : Calls Tryd.prog 4 #[.agg #[.slice A n c, .slice A2 n2 c2, .int .i64 en], .int .i64 i] w (Yes w) := by
  by_cases h1 : 400 < n
  · exact long_decodes i hL (Or.inl h1)
  by_cases h2 : 30000 < n2
  · exact long_decodes i hL (Or.inr ⟨h1, h2⟩)
  exact law_decodes i hL hO (by omega) (by omega)
end
end Go.Proofs.YtbkojaiecgdodaaDoor
end
