/- A part of the proof of TacG. -/
import Derived.Test.YtbkojaiecgdodaaDoorTpD
import Derived.RangeFuncNested
import Derived.RangeFuncBound
import Derived.RangeFuncCalls
import Derived.RangeFuncLeaves
import Derived.RangeFuncFrom
import Derived.Shelf.Abstract
import Derived.Shelf.RegionOpen
import Derived.OwnWalkIn
import Derived.TacticsInMore
import Derived.LoopNIn
import Derived.LoopIn
import Derived.Test.YtbkojaiecgdodaaDoorTpE1
import Derived.Test.YtbkojaiecgdodaaDoorDeL
import Derived.Test.YtbkojaiecgdodaaDoorEvTx
section
set_option linter.unusedVariables false
set_option linter.unusedSimpArgs false
namespace Go.Proofs.YtbkojaiecgdodaaDoor
open Go Go.Ev Go.RowKit Go.Shelf
attribute [local go_sem] Oper.semAt_some
abbrev ItP := { x : MI // x.ok ∧ x.fits }
def encP (x : ItP) : Array Value := #[.agg #[.int .i64 x.1.op, .int .i64 x.1.d, .int .i64 x.1.a, .int .i64 x.1.b, .int .i64 x.1.m], .int .i64 0]
noncomputable def linesP (xs : List ItP) : List UInt8 := xs.flatMap fun x => lnOf x.1 ++ [10]
theorem linesP_snoc (xs : List ItP) (x : ItP) : linesP (xs ++ [x]) = linesP xs ++ (lnOf x.1 ++ [10]) := by simp [linesP]
theorem linesP_len (xs : List ItP) : (linesP xs).length ≤ 121 * xs.length := by
  induction xs with
  | nil => simp [linesP]
  | cons x xs ih =>
    have h := (lnOf_spec x.1 x.2).1
    have e : linesP (x :: xs) = (lnOf x.1 ++ [10]) ++ linesP xs := by simp [linesP]
    rw [e]
    simp only [List.length_append, List.length_cons, List.length_nil]
    omega
/-- what a round keeps: what lay below s, and the captured variable -/
def KpB (s Bn : Nat) (W W' : World) : Prop := Below s W W' ∧ ∀ v, W.cell? ⟨Bn, 0, none⟩ = some v → W'.cell? ⟨Bn, 0, none⟩ = some v
theorem kpB_t {s Bn : Nat} {A B C : World} (h : KpB s Bn A B) (k : KpB s Bn B C) : KpB s Bn A C := ⟨h.1.trans k.1, fun v hv => k.2 v (h.2 v hv)⟩
def allP (ws : List Int) (n : Nat) (xs : List ItP) : Prop := linesP xs = codeT ws (n + 1) 0
theorem okF_get' {ws : List Int} {f k : Nat} (hk : k < ws.length) (h : okF ws (f + 1) k) : acc ws k ∧ okF ws f (gnx ws k).2 := h.resolve_left (by omega)
theorem grown_of_below' {w w' : World} (h : Below w.heap.size w w') : w.grownBy w' none := ⟨h.os, h.tape, h.output, h.size, fun k hk _ => h.block k hk⟩
set_option maxRecDepth 100000 in
set_option maxHeartbeats 4000000 in
theorem it46p {A : Option Addr} {n c : Nat} {ws : List Int} {w : World} (hL : Laid w) (hO : Rows1 w A n c ws) (hn : n ≤ 400) (hok0 : okF ws (n + 1) 0) {n₀ Bn : Nat} (m : Nat) (hw : w.heap.size ≤ n₀) {w1 : World} (hb1 : Below w.heap.size w w1) (hc1 : w1.cell? ⟨Bn, 0, none⟩ = some (.slice A n c)) (h1 : n₀ ≤ w1.heap.size) :
    SeqStopsK Fence.wide m Tryd.prog 46 #[.pointer (some ⟨Bn, 0, none⟩)] encP (KpB n₀ Bn) (allP ws n) (fun _ => True) (n + 1) w1 := by
  intro l J Jx W hW hJ hJx hY h0
  have hlen := hO.len
  have HO := Lib.hid hO
  have HL := Lib.hid hL
  have HW := Lib.hid (hb1.trans (hW.mono (by omega)))
  have hcW := (hW.cell (p := ⟨Bn, 0, none⟩) (cell_lt hc1)).trans hc1
  have hsz : n₀ ≤ W.heap.size := Nat.le_trans h1 hW.size
  have HY := Lib.hid hY
  have HJ := Lib.hid hJ
  clear hO hL hb1 hW hc1 hY hJ hJx
  refine callsIn_of_wp Tryd.func46 rfl trivial ?_ rfl
  simp only [Tryd.ntmps46, List.size_toArray, List.length_cons, List.length_nil, Nat.reduceAdd, Nat.reduceSub, Array.replicate_succ, Array.replicate_zero, List.push_toArray, List.append_toArray, List.nil_append, List.cons_append]
  gi_wp2
  gi_loopw [3] (fun i wr => ∃ (k f : Nat) (pre : List ItP), i = .int .i64 k ∧ k ≤ n ∧ n + 1 ≤ f + k ∧ okF ws f k ∧ pre.length ≤ k ∧ linesP pre ++ codeT ws f k = codeT ws (n + 1) 0 ∧ J pre wr ∧ Below n₀ W wr ∧ wr.cell? ⟨Bn, 0, none⟩ = some (.slice A n c) ∧ n₀ ≤ wr.heap.size) (fun i _ => (n - intOf i).toNat)
  case atStart => exact ⟨0, n + 1, [], rfl, Nat.zero_le _, by omega, hok0, Nat.le_refl _, rfl, h0, Below.refl _ _, hcW, hsz⟩
  case round =>
    obtain ⟨k, f, pre, rfl, hk, hfk, hok, hpl, hp0, hJp, hb, hbx, hsr⟩ := hrel
    have HB := Lib.hid (HW.out.trans (hb.mono hw))
    have HBW := Lib.hid hb
    have HK := Lib.hid hok
    have HP := Lib.hid hp0
    have HJp := Lib.hid hJp
    clear hb hok hp0 hJp
    by_cases hlt : k < n
    · obtain ⟨f', rfl⟩ : ∃ f', f = f' + 1 := ⟨f - 1, by omega⟩
      obtain ⟨hx1, hx2, hx3⟩ := gnx_next HO.out hlt
      gi_wp2_with (gi_at_call 14; fail)
      refine ⟨trivial, (fun h => by cases h), (callsIn_wide.2 (dec_prog (HL.out.below HB.out) (HO.out.later HB.out) hn hlt)).mono ?_⟩
      rintro e w2 ⟨rfl, hb2⟩
      have HBW2 := Lib.hid (HBW.out.trans (hb2.mono hsr))
      have HJ2 := Lib.hid (HJ.out _ _ _ none HJp.out (grown_of_below' hb2) (fun r e => by cases e))
      have hb2s := hb2.size
      have hcx := cell_a1 ((hb2.cell (p := ⟨Bn, 0, none⟩) (cell_lt hbx)).trans hbx)
      clear hb2 hbx
      obtain ⟨ha, hok'⟩ := okF_get' (by rw [hlen]; exact hlt) HK.out
      have HF := gnx_fits HO.out hlt
      have HST := Lib.hid (codeT_step (f := f') (by rw [hlen]; exact hlt : k < ws.length))
      have HOK2 := Lib.hid hok'
      rw [decV_t ha]
      have HA := ha.1
      clear ha hok'
      generalize (gnx ws k).1 = x at *
      generalize (gnx ws k).2 = nx at *
      simp only [vl]
      obtain ⟨fn, tmps, assign, body, hy, hR⟩ := HY.out pre (⟨x, HA, HF⟩ : ItP) (w2.alloc (.cells #[.int .i64 x.op, .int .i64 x.d, .int .i64 x.a, .int .i64 x.b, .int .i64 x.m] 26)) (HJ.out _ _ _ none (HJ2.out) (World.grownBy_alloc _ _ none) (fun r e => by cases e)) (by omega)
      dsimp only [encP] at hy
      gi_wp2
      refine ⟨(fun h => by cases h), hR.mono ?_⟩
      rintro e W3 (⟨rfl, hJ3, hk3⟩ | ⟨rfl, hJx3⟩)
      · have HB3 := Lib.hid ((HBW2.out.alloc (by omega) _).trans hk3.1)
        have HC3 := Lib.hid (hk3.2 _ (hcx _))
        have hs3 : n₀ ≤ W3.heap.size := by have := hk3.1.size; have := hb2s; simp at *; omega
        have HJ3 := Lib.hid hJ3
        clear hJ3 hk3 hy hR
        gi_wp2
        go_roundw
        case rel => exact ⟨nx, f', pre ++ [⟨x, HA, HF⟩], rfl, by omega, by omega, HOK2.out, by simp; omega, by rw [linesP_snoc, ← HP.out, HST.out]; simp, HJ3.out, HB3.out, HC3.out, hs3⟩
        case measure => simp [intOf]; omega
      · gi_wp2
        refine bodyPost_ret (results_none rfl _ _ _) rfl ⟨⟨_, rfl⟩, .inr ⟨pre ++ [⟨x, HA, HF⟩], trivial, hJx3⟩⟩
    · obtain rfl : k = n := by omega
      obtain ⟨f', rfl⟩ : ∃ f', f = f' + 1 := ⟨f - 1, by omega⟩
      have hall : linesP pre = codeT ws (k + 1) 0 := by have := HP.out; rw [codeT_end (by omega)] at this; simpa using this
      gi_wp2
      go_end0
      exact ⟨⟨_, rfl⟩, .inl ⟨pre, hall, HJp.out⟩⟩
end Go.Proofs.YtbkojaiecgdodaaDoor
end
section
set_option linter.unusedVariables false
set_option linter.unusedSimpArgs false
namespace Go.Proofs.YtbkojaiecgdodaaDoor
open Go Go.Ev Go.RowKit Go.Shelf
attribute [local go_sem] Oper.semAt_some
theorem cells_kept {X Y : World} {row : Option Nat} {B : Nat} {cs : Array Value} {t : TypeId} (h : X.heap[B]? = some (.cells cs t (0, 0))) (hg : X.grownBy Y row) (hr : ∀ r, row = some r → ∃ o, X.heap[r]? = some o ∧ o.isCells = false) : Y.heap[B]? = some (.cells cs t (0, 0)) := by
  refine (hg.block B (Array.getElem?_eq_some_iff.1 h).1 (fun e => ?_)).trans h
  obtain ⟨o, ho, hc⟩ := hr B e.symm
  rw [h] at ho; cases ho; cases hc
theorem row_ne {W : World} {B n₀ : Nat} {t e : TypeId} {u v : Value} {S : List UInt8} (h : Boxed W B t u) (hte : t ≠ e) (k : Text W n₀ e v S) : v.ownBlock ≠ some B := by
  obtain ⟨g, cap, cur, fz, k⟩ := k
  intro e'
  rw [k.val] at e'
  have : g = B := by simpa [Value.ownBlock] using e'
  subst this
  have := (show W.heap[g]? = _ from h).symm.trans k.row
  simp at this
  exact hte this.2.1
theorem cells5 {W : World} {B : Nat} {a b c d e : Value} {t : TypeId} (h : W.heap[B]? = some (.cells #[a, b, c, d, e] t (0, 0))) : W.cell? ⟨B, 0, none⟩ = some a ∧ W.cell? ⟨B, 1, none⟩ = some b ∧ W.cell? ⟨B, 2, none⟩ = some c ∧ W.cell? ⟨B, 3, none⟩ = some d ∧ W.cell? ⟨B, 4, none⟩ = some e := by
  refine ⟨?_, ?_, ?_, ?_, ?_⟩ <;> simp [World.cell?, h]
theorem textBox_own {β : Type} (n₀ B : Nat) (t e : TypeId) (f : β → List UInt8) : Own (fun s W => ∃ v, Boxed W B t v ∧ Text W n₀ e v (f s)) := by
  rintro s X Y row ⟨v, hv, hr⟩ hg hrow
  refine ⟨v, hv.kept hg (fun e' => ?_), hr.kept hg (fun e' => ?_)⟩
  · obtain ⟨o, ho, hc⟩ := hrow B e'.symm
    rw [show X.heap[B]? = _ from hv] at ho; cases ho; cases hc
  · obtain ⟨g, cap, cur, fz, k⟩ := hr
    rw [k.val] at e'
    obtain ⟨o, ho, hc⟩ := hrow g (by simpa [Value.ownBlock] using e'.symm)
    rw [k.row] at ho; cases ho; cases hc
theorem Tryd.info5 : (Tryd.prog.info? 5).map (fun i => (i.zero, i.size, i.bytes)) = some (some (.int .u8 0), 1, 1) := by kernel_rfl
set_option maxRecDepth 100000 in
set_option maxHeartbeats 4000000 in
theorem prt_prog1 {A A2 : Option Addr} {n c n2 c2 : Nat} {en : Int} {ws ds : List Int} {w : World} (hL : Laid w) (hT : Tab w) (hO : Rows1 w A n c ws) (hD : RowsI w A2 n2 c2 ds) (hn : n ≤ 300) (hn2 : n2 ≤ 300) (h0 : chkV ws n2 en = 0) :
    Calls Tryd.prog 18 #[.agg #[.slice A n c, .slice A2 n2 c2, .int .i64 en]] w fun e w' => e = .returned (.tuple #[.string ⟨⟨headT en ++ dataT ds ++ codeT ws (n + 1) 0⟩⟩, .int .i64 0]) ∧ Below w.heap.size w w' := by
  have hB0 : Below w.heap.size w (w.alloc (.cells #[.slice A n c, .slice A2 n2 c2, .int .i64 en] 35)) := (Below.refl _ _).alloc (Nat.le_refl _) _
  have hlen := hO.len
  have hdlen := hD.len
  obtain ⟨he0, he1, hok⟩ := chkz h0
  rw [hlen] at hok he1
  have hi := itoa_len (n := en) (by omega) (by omega)
  have q1 : ¬ 9223372036854775807 < 6 + (Lib.itoa en).length := by omega
  have q2 : ¬ 9223372036854775807 < 6 + (Lib.itoa en).length + 2 := by omega
  have HOK := Lib.hid hok
  have HL := Lib.hid hL
  have HT := Lib.hid hT
  have HO := Lib.hid hO
  have HD := Lib.hid hD
  have HH := Lib.hid (headT_len (d := en) (by omega) (by omega))
  clear hL hO hD hok hi hT
  refine (callsIn_wide (n := 3)).1 ?_
  refine callsIn_of_wp_marks Tryd.func18 rfl trivial ?_ rfl
  simp only [Tryd.ntmps18, List.size_toArray, List.length_cons, List.length_nil, Nat.reduceAdd, Nat.reduceSub, Array.replicate_succ, Array.replicate_zero, List.push_toArray, List.append_toArray, List.nil_append, List.cons_append]
  gi_wp2
  have CK := chk_prog (A2 := A2) (c2 := c2) (n2 := n2) (en := en) (HL.out.below hB0) (HO.out.later hB0) (by omega : n ≤ 400)
  rw [h0] at CK
  obtain ⟨b0, b1, b2⟩ := box3_cells (w := w) (a := .slice A n c) (b := .slice A2 n2 c2) (c := .int .i64 en) (t := 35)
  have hsz : w.heap.size < (w.alloc (.cells #[.slice A n c, .slice A2 n2 c2, .int .i64 en] 35)).heap.size := by simp
  generalize hW : w.alloc (.cells #[.slice A n c, .slice A2 n2 c2, .int .i64 en] 35) = W0 at *
  refine ⟨trivial, (callsIn_wide.2 CK).mono ?_⟩
  rintro e w2 ⟨rfl, hb2⟩
  have c0 := (hb2.cell (p := ⟨w.heap.size, 0, none⟩) hsz).trans b0
  have c1 := (hb2.cell (p := ⟨w.heap.size, 1, none⟩) hsz).trans b1
  have c2' := (hb2.cell (p := ⟨w.heap.size, 2, none⟩) hsz).trans b2
  have HB := Lib.hid (hB0.trans (hb2.mono (by omega)))
  have hs2 : w.heap.size < w2.heap.size := by have := hb2.size; omega
  clear hb2 hB0 b0 b1 b2 CK hW hsz h0
  clear W0
  gi_wp2
  refine ⟨trivial, (callsIn_wide.2 (itoa_calls (n := en) (by omega) (by omega) (tab_below HT.out HB.out))).mono ?_⟩
  rintro e w3 ⟨rfl, hb3⟩
  have d0 := (hb3.cell (p := ⟨w.heap.size, 0, none⟩) hs2).trans c0
  have d1 := (hb3.cell (p := ⟨w.heap.size, 1, none⟩) hs2).trans c1
  have HB3 := Lib.hid (HB.out.trans (hb3.mono (by omega)))
  have hs3 : w.heap.size < w3.heap.size := by have := hb3.size; omega
  clear hb3 HB c0 c1 c2' hs2
  clear w2
  obtain ⟨v, w4, hcv, hTx, hb4, hs4⟩ := run_conv_T (P := Tryd.prog) w3 9 71 5 ([101, 110, 116, 114, 121, 32] ++ Lib.itoa en ++ [59, 10]) Tryd.underlying9 Tryd.underlying71 Tryd.underlying5 (by have := HH.out; unfold headT at this; omega)
  obtain ⟨g, cap, N, hN, rfl⟩ := hTx.shape'
  have HTx := Lib.hid hTx
  have e0 := (hb4.cell (p := ⟨w.heap.size, 0, none⟩) hs3).trans d0
  have e1 := (hb4.cell (p := ⟨w.heap.size, 1, none⟩) hs3).trans d1
  have hs5 : w.heap.size < w4.heap.size := by omega
  have HB4 := Lib.hid (HB3.out.trans (hb4.mono (by omega)))
  clear hTx hN d0 d1 hb4
  rw [← cat_eq, ← cat_eq] at hcv
  gi_wp2
  have hS0 : (headT en : List UInt8) = [101, 110, 116, 114, 121, 32] ++ Lib.itoa en ++ [59, 10] := rfl
  rw [← hS0] at HTx
  have hv0 := Boxed.new w4 71 (.slice (some ⟨g, 0, none⟩) N cap)
  have hx0 := HTx.out.kept (World.grownBy_alloc w4 (.cells #[.slice (some ⟨g, 0, none⟩) N cap] 71) none) (by simp [Value.ownBlock])
  have E0 := Lib.hid (cell_a1 e0 (.cells #[.slice (some ⟨g, 0, none⟩) N cap] 71))
  have hsW : w.heap.size + 2 ≤ (w4.alloc (.cells #[.slice (some ⟨g, 0, none⟩) N cap] 71)).heap.size := by simp; omega
  have hsX : w3.heap.size + 2 = (w4.alloc (.cells #[.slice (some ⟨g, 0, none⟩) N cap] 71)).heap.size := by simp; omega
  have HB5 := Lib.hid (HB4.out.alloc (by omega) (.cells #[.slice (some ⟨g, 0, none⟩) N cap] 71))
  rw [hs4] at hv0
  generalize w4.alloc (.cells #[.slice (some ⟨g, 0, none⟩) N cap] 71) = W5 at *
  clear e0 e1 hcv HTx HB4 hs5 q1 q2 hs4
  clear w4
  have HV0 := Lib.hid hv0
  have HX0 := Lib.hid hx0
  clear hv0 hx0 hS0
  gi_loopw [23] (fun i wr => ∃ (k : Nat) (S : List UInt8) (v : Value), i = .int .i64 k ∧ k ≤ n2 ∧ S = headT en ++ dataT (ds.take k) ∧ S.length ≤ 40 + 40 * k ∧ Boxed wr (w3.heap.size + 1) 71 v ∧ Text wr w3.heap.size 5 v S ∧ Below w3.heap.size W5 wr) (fun i _ => (n2 - intOf i).toNat)
  case atStart => exact ⟨0, headT en, _, rfl, Nat.zero_le _, by simp [dataT], by have := HH.out; omega, HV0.out, HX0.out, Below.refl _ _⟩
  case round =>
    obtain ⟨k, S, v, rfl, hk, hS, hSl, hv, hx, hb⟩ := hrel
    have HS := Lib.hid hS
    have HV := Lib.hid hv
    have HX := Lib.hid hx
    have HBw := Lib.hid (HB5.out.trans (hb.mono (by omega)))
    have HBr := Lib.hid hb
    clear hS hb hv hx
    by_cases hlt : k < n2
    · obtain ⟨B, o, rfl, hc⟩ := HD.out.get k hlt
      obtain ⟨f0, f1⟩ := HD.out.fits k hlt
      have hcw := (HBw.out.cell (p := ⟨B, o + k, none⟩) (World.block_lt_of_cell? w _ hc)).trans hc
      have hadd := add_none B o k
      have HK := Lib.hid (dataT_succ (ds := ds) (k := k) (by omega))
      have hdl := dat1_len f0 f1
      clear hc
      generalize ds.getD k 0 = d at *
      have hil := itoa_len f0 f1
      gi_wp2_with fail
      have q1 : ¬ 9223372036854775807 < 5 + (Lib.itoa d).length := by omega
      have q2 : ¬ 9223372036854775807 < 5 + (Lib.itoa d).length + 2 := by omega
      have hv := HV.out.cell
      have F := Lib.hid (fmt_calls (w := wr.drew) f0 f1 (tab_below HT.out HBw.out.drew))
      have hl : ((⟨#[100, 97, 116, 97, 32]⟩ : ByteArray) ++ ⟨⟨Lib.itoa d⟩⟩ ++ ⟨#[59, 10]⟩ : ByteArray) = ⟨⟨dat1 d⟩⟩ := (congrArg (· ++ (⟨#[59, 10]⟩ : ByteArray)) (cat_eq _ _)).trans (cat_eq _ _)
      have HLl := Lib.hid hl
      clear hl
      obtain ⟨i0, hi, hz0, hz1, hz2⟩ := info_parts Tryd.info5
      have HVd := Lib.hid (show Boxed wr.drew (w3.heap.size + 1) 71 v from HV.out)
      have HXd := Lib.hid (Text.later HX.out ((Below.refl _ _).drew))
      refine wpIn_wide.2 ?_
      refine wp_mono (Q := fun e a w => (∀ c, e ≠ .panic c) ∧ Exit.inBlock 1 _ e a w) ?_ (fun e a w h => h.2)
      refine wp_region_held_drew (S := fun _ => True) (by kernel_rfl) trivial (fun _ => ?_)
      try simp only [Act.put, List.getElem_toArray, List.getElem_cons_succ, List.getElem_cons_zero, List.setIfInBounds_toArray, List.set_cons_zero, List.set_cons_succ]
      refine wpAnyH_take (i := 1) (v := .int .i64 d) rfl (by kernel_rfl) (by kernel_rfl) (by kernel_rfl) (fun _ _ _ h => absurd rfl (h.1 _)) (Or.inl ⟨by rfl, by (intro w0 hS0; go_simp)⟩) trivial ?_
      try simp only [Act.put, List.getElem_toArray, List.getElem_cons_succ, List.getElem_cons_zero, List.setIfInBounds_toArray, List.set_cons_zero, List.set_cons_succ]
      refine wpAnyH_ready (rs := [0, 2]) (by kernel_rfl) (by simp) ?_
      refine AllReadyH.cons rfl (fun K hK => ?_) (AllReadyH.cons rfl (fun K hK => ?_) AllReadyH.nil)
      · go_simp
        refine hK.out _ _ trivial (fun _ => ?_)
        clear hK K
        try simp only [Act.put, List.getElem_toArray, List.getElem_cons_succ, List.getElem_cons_zero, List.setIfInBounds_toArray, List.set_cons_zero, List.set_cons_succ]
        refine wpAnyH_ready (rs := [2]) (by kernel_rfl) (by simp) ?_
        refine AllReadyH.cons rfl (fun K hK => ?_) AllReadyH.nil
        go_simp
        go_at_call 33
        refine F.out.mono ?_
        rintro e w5 ⟨rfl, hb5⟩
        have hv5 := Go.Ev.Boxed.later HVd.out hb5
        have hc5 := hv5.cell
        have hx5 := Text.later HXd.out hb5
        refine hK.out _ _ trivial (fun _ => ?_)
        clear hK K
        try simp only [Act.put, List.getElem_toArray, List.getElem_cons_succ, List.getElem_cons_zero, List.setIfInBounds_toArray, List.set_cons_zero, List.set_cons_succ]
        refine wpAnyH_take (i := 3) (v := .string (⟨#[100, 97, 116, 97, 32]⟩ ++ ⟨⟨Lib.itoa d⟩⟩)) rfl (by kernel_rfl) (by kernel_rfl) (by kernel_rfl) (fun _ _ _ h => absurd rfl (h.1 _)) (Or.inl ⟨by rfl, by (intro w0 hS0; go_simp)⟩) trivial ?_
        try simp only [Act.put, List.getElem_toArray, List.getElem_cons_succ, List.getElem_cons_zero, List.setIfInBounds_toArray, List.set_cons_zero, List.set_cons_succ]
        refine wpAnyH_take (i := 4) (v := .string (⟨#[100, 97, 116, 97, 32]⟩ ++ ⟨⟨Lib.itoa d⟩⟩ ++ ⟨#[59, 10]⟩)) rfl (by kernel_rfl) (by kernel_rfl) (by kernel_rfl) (fun _ _ _ h => absurd rfl (h.1 _)) (Or.inl ⟨by rfl, by (intro w0 hS0; go_simp)⟩) trivial ?_
        try simp only [Act.put, List.getElem_toArray, List.getElem_cons_succ, List.getElem_cons_zero, List.setIfInBounds_toArray, List.set_cons_zero, List.set_cons_succ]
        refine wpAnyH_ready (rs := [5]) (by kernel_rfl) (by simp) ?_
        refine AllReadyH.cons rfl (fun K hK => ?_) AllReadyH.nil
        refine step_append_T rfl (.tmp 27) (.tmp 31) 71 9 rfl w3.heap.size 5 i0 Tryd.underlying71 Tryd.underlying9 hi hz0 hz1 hz2 v S (dat1 d) rfl (congrArg Value.string HLl.out) hx5 (by omega) (by have := hb5.size; have := HBr.out.size; simp at *; omega) ?_
        intro g1 cap1 N1 w6 hN1 hT1 hg1
        obtain rfl : N1 = S.length + (dat1 d).length := by rw [hN1, List.length_append]
        clear hN1
        obtain ⟨z1, z2, z3, z4, z5⟩ := Text.appended hv5 (by decide) hx5 (by omega) (by have := hb5.size; have := HBr.out.size; simp at *; omega) hT1 hg1
        have hc6 := z1.cell
        have hf6 := z1.frozen
        refine hK.out _ _ trivial (fun _ => ?_)
        clear hK K
        try simp only [Act.put, List.getElem_toArray, List.getElem_cons_succ, List.getElem_cons_zero, List.setIfInBounds_toArray, List.set_cons_zero, List.set_cons_succ]
        refine wpAnyH_ready (rs := [6]) (by kernel_rfl) (by simp) ?_
        refine AllReadyH.cons rfl (fun K hK => ?_) AllReadyH.nil
        go_simp
        refine hK.out _ _ trivial (fun _ => ?_)
        clear hK K
        try simp only [Act.put, List.getElem_toArray, List.getElem_cons_succ, List.getElem_cons_zero, List.setIfInBounds_toArray, List.set_cons_zero, List.set_cons_succ]
        refine wpAnyH_done (by kernel_rfl) ?_ _
        refine ⟨(fun c h => by cases h), ?_⟩
        have HBz := Lib.hid (((HBr.out.drew).trans (hb5.mono (by have := HBr.out.size; simp at *; omega))).trans z5)
        have Z2 := Lib.hid z2
        have Z3 := Lib.hid z3
        clear z1 z2 z3 z4 z5 hc6 hf6 hT1 hg1 hv5 hc5 hx5 hb5
        gi_wp2_with fail
        exact ⟨⟨k + 1, S ++ dat1 d, _, rfl, by omega, by rw [HK.out, HS.out]; simp, by simp only [List.length_append]; omega, Z2.out, Z3.out, HBz.out⟩, by simp [intOf]; omega⟩
      · go_simp
        go_at_call 33
        refine F.out.mono ?_
        rintro e w5 ⟨rfl, hb5⟩
        have hv5 := Go.Ev.Boxed.later HVd.out hb5
        have hc5 := hv5.cell
        have hx5 := Text.later HXd.out hb5
        refine hK.out _ _ trivial (fun _ => ?_)
        clear hK K
        try simp only [Act.put, List.getElem_toArray, List.getElem_cons_succ, List.getElem_cons_zero, List.setIfInBounds_toArray, List.set_cons_zero, List.set_cons_succ]
        refine wpAnyH_take (i := 3) (v := .string (⟨#[100, 97, 116, 97, 32]⟩ ++ ⟨⟨Lib.itoa d⟩⟩)) rfl (by kernel_rfl) (by kernel_rfl) (by kernel_rfl) (fun _ _ _ h => absurd rfl (h.1 _)) (Or.inl ⟨by rfl, by (intro w0 hS0; go_simp)⟩) trivial ?_
        try simp only [Act.put, List.getElem_toArray, List.getElem_cons_succ, List.getElem_cons_zero, List.setIfInBounds_toArray, List.set_cons_zero, List.set_cons_succ]
        refine wpAnyH_take (i := 4) (v := .string (⟨#[100, 97, 116, 97, 32]⟩ ++ ⟨⟨Lib.itoa d⟩⟩ ++ ⟨#[59, 10]⟩)) rfl (by kernel_rfl) (by kernel_rfl) (by kernel_rfl) (fun _ _ _ h => absurd rfl (h.1 _)) (Or.inl ⟨by rfl, by (intro w0 hS0; go_simp)⟩) trivial ?_
        try simp only [Act.put, List.getElem_toArray, List.getElem_cons_succ, List.getElem_cons_zero, List.setIfInBounds_toArray, List.set_cons_zero, List.set_cons_succ]
        refine wpAnyH_ready (rs := [0]) (by kernel_rfl) (by simp) ?_
        refine AllReadyH.cons rfl (fun K hK => ?_) AllReadyH.nil
        go_simp
        refine hK.out _ _ trivial (fun _ => ?_)
        clear hK K
        try simp only [Act.put, List.getElem_toArray, List.getElem_cons_succ, List.getElem_cons_zero, List.setIfInBounds_toArray, List.set_cons_zero, List.set_cons_succ]
        refine wpAnyH_ready (rs := [5]) (by kernel_rfl) (by simp) ?_
        refine AllReadyH.cons rfl (fun K hK => ?_) AllReadyH.nil
        refine step_append_T rfl (.tmp 27) (.tmp 31) 71 9 rfl w3.heap.size 5 i0 Tryd.underlying71 Tryd.underlying9 hi hz0 hz1 hz2 v S (dat1 d) rfl (congrArg Value.string HLl.out) hx5 (by omega) (by have := hb5.size; have := HBr.out.size; simp at *; omega) ?_
        intro g1 cap1 N1 w6 hN1 hT1 hg1
        obtain rfl : N1 = S.length + (dat1 d).length := by rw [hN1, List.length_append]
        clear hN1
        obtain ⟨z1, z2, z3, z4, z5⟩ := Text.appended hv5 (by decide) hx5 (by omega) (by have := hb5.size; have := HBr.out.size; simp at *; omega) hT1 hg1
        have hc6 := z1.cell
        have hf6 := z1.frozen
        refine hK.out _ _ trivial (fun _ => ?_)
        clear hK K
        try simp only [Act.put, List.getElem_toArray, List.getElem_cons_succ, List.getElem_cons_zero, List.setIfInBounds_toArray, List.set_cons_zero, List.set_cons_succ]
        refine wpAnyH_ready (rs := [6]) (by kernel_rfl) (by simp) ?_
        refine AllReadyH.cons rfl (fun K hK => ?_) AllReadyH.nil
        go_simp
        refine hK.out _ _ trivial (fun _ => ?_)
        clear hK K
        try simp only [Act.put, List.getElem_toArray, List.getElem_cons_succ, List.getElem_cons_zero, List.setIfInBounds_toArray, List.set_cons_zero, List.set_cons_succ]
        refine wpAnyH_done (by kernel_rfl) ?_ _
        refine ⟨(fun c h => by cases h), ?_⟩
        have HBz := Lib.hid (((HBr.out.drew).trans (hb5.mono (by have := HBr.out.size; simp at *; omega))).trans z5)
        have Z2 := Lib.hid z2
        have Z3 := Lib.hid z3
        clear z1 z2 z3 z4 z5 hc6 hf6 hT1 hg1 hv5 hc5 hx5 hb5
        gi_wp2_with fail
        exact ⟨⟨k + 1, S ++ dat1 d, _, rfl, by omega, by rw [HK.out, HS.out]; simp, by simp only [List.length_append]; omega, Z2.out, Z3.out, HBz.out⟩, by simp [intOf]; omega⟩
    · obtain rfl : k = n2 := by omega
      rw [List.take_of_length_le (by omega)] at HS
      have e0 := (HBr.out.cell (p := ⟨w.heap.size, 0, none⟩) hs3).trans E0.out
      gi_wp2_with fail
      refine ⟨trivial, (seq31 2).mono ?_⟩
      rintro e w' ⟨rfl, rfl⟩
      gi_wp2
      have c6 := Boxed.new wr 27 (.slice A n c)
      have v6 : Boxed (wr.alloc (.cells #[.slice A n c] 27)) (w3.heap.size + 1) 71 v := HV.out.alloc _
      have x6 : Text (wr.alloc (.cells #[.slice A n c] 27)) w3.heap.size 5 v S := HX.out.kept (World.grownBy_alloc wr _ none) (by obtain ⟨g, e, _⟩ := HX.out.ge; rw [e]; simp)
      have B6 := HBw.out.alloc HBw.out.size (.cells #[.slice A n c] 27)
      have hlv := HV.out.lt
      have hsz6 : wr.heap.size + 1 = (wr.alloc (.cells #[.slice A n c] 27)).heap.size := by simp
      have hs3' := HB3.out.size
      generalize wr.alloc (.cells #[.slice A n c] 27) = W6 at *
      refine wpIn_rangeFunc_ownH (n := 3) rfl (by decide) (gf := 46) (lb := #[.pointer (some ⟨wr.heap.size, 0, none⟩)]) rfl trivial (enters_of Tryd.func46 (by kernel_rfl) rfl)
        (it46p HL.out HO.out (by omega) HOK.out (n₀ := w3.heap.size) (Bn := wr.heap.size) 2 hs3' B6 c6.cell (by omega)) kpB_t
        (fun W l o o' hl ho h1 h2 => ⟨belowK_b (by omega) W l o o' hl ho h1 h2, fun u hu => ((belowK_b (n₀ := wr.heap.size + 1) (by omega) W l o o' hl ho h1 h2).cell (p := ⟨wr.heap.size, 0, none⟩) (by show wr.heap.size < _; omega)).trans hu⟩) (Below.refl _ _) (fun _ => rfl)
        (fun pre W => ((∃ u, Boxed W (w3.heap.size + 1) 71 u ∧ Text W w3.heap.size 5 u (S ++ linesP pre)) ∧ Boxed W wr.heap.size 27 (.slice A n c)) ∧ Below w.heap.size w W)
        (fun _ _ _ => False)
        (OwnFrom.and (OwnFrom.and (Own.from (textBox_own _ _ _ _ (fun pre => S ++ linesP pre)) _) (Own.from (boxed_own _ _ _) _)) (ownFrom_below (Nat.le_refl _) (by omega)))
        (fun _ _ _ _ _ hs _ _ => hs)
        ⟨⟨⟨v, v6, by simpa [linesP] using x6⟩, c6⟩, B6⟩
        (fun x a' W => ∃ Bx, wr.heap.size < Bx ∧ W.heap[Bx]? = some (.cells #[.int .i64 x.1.op, .int .i64 x.1.d, .int .i64 x.1.a, .int .i64 x.1.b, .int .i64 x.1.m] 26 (0, 0)) ∧ a' =
          { tmps := #[.agg #[.slice A n c, .slice A2 k c2, .int .i64 en],
          .pointer (some ⟨w.heap.size, 0, none⟩), .string ⟨#[]⟩, .int .i64 0, .int .i64 0, .pointer (some ⟨w3.heap.size + 1, 0, none⟩), undef, u7, .pointer (some ⟨Bx, 0, none⟩),
          .agg #[.slice A n c, .slice A2 k c2, .int .i64 en], .int .i64 0, .int .i64 0, .bool false, undef, .pointer (some ⟨w.heap.size, 2, none⟩), .int .i64 en, .string ⟨⟨Lib.itoa en⟩⟩,
          .string (⟨#[101, 110, 116, 114, 121, 32]⟩ ++ ⟨⟨Lib.itoa en⟩⟩), .string (⟨#[101, 110, 116, 114, 121, 32]⟩ ++ ⟨⟨Lib.itoa en⟩⟩ ++ ⟨#[59, 10]⟩),
          .slice (some ⟨g, 0, none⟩) N cap, .pointer (some ⟨w.heap.size, 1, none⟩), .slice A2 k c2, .int .i64 k, .int .i64 k, .bool false, u25, u26, u27, u28,
          u29, u30, u31, u32, u33, .pointer (some ⟨w.heap.size, 0, none⟩), .slice A n c, .func (.func 46) #[] #[.pointer (some ⟨wr.heap.size, 0, none⟩)],
          .agg #[.int .i64 x.1.op, .int .i64 x.1.d, .int .i64 x.1.a, .int .i64 x.1.b, .int .i64 x.1.m], .int .i64 0, undef, undef, undef, undef, undef, undef], defers := [] })
        (fun x a' _ X Y row hs hg hr => by obtain ⟨Bx, h1, h2, h3⟩ := hs; exact ⟨Bx, h1, cells_kept h2 hg (fun r e => (hr r e).2), h3⟩)
        ?assign ?body ?done ?stop
      case assign =>
        rintro l pre x W K ⟨⟨⟨u, hu, hxu⟩, hbn⟩, hB⟩ hK
        dsimp only [encP]
        have hlu := hu.lt
        gi_wp2
        exact hK _ _ ((KeepsOthers.alloc _ _).from _) ⟨(Below.refl _ W).alloc (by omega) _, fun v hv => cell_a1 hv _⟩ ⟨⟨⟨u, hu.alloc _, hxu.kept (World.grownBy_alloc W _ none) (by obtain ⟨g, e, _⟩ := hxu.ge; rw [e]; simp)⟩, hbn.alloc _⟩, hB.alloc hB.size _⟩ ⟨W.heap.size, hbn.lt, World.alloc_heap_new W _, rfl⟩
      case body =>
        rintro l pre x a' W hl ⟨r, hr⟩ ⟨⟨⟨u, hu, hxu⟩, hbn⟩, hB⟩ ⟨Bx, hBx, hX, rfl⟩ hlt
        have hlu := hu.lt
        have hbn0 := hbn.cell
        have hpl := linesP_len pre
        obtain ⟨hl1, hl2, _⟩ := lnOf_spec x.1 x.2
        have kd : KeepsOthers W W.drew := KeepsOthers.drew W
        have bd : Below w3.heap.size W W.drew := (Below.refl _ _).drew
        have hvd : Boxed W.drew (w3.heap.size + 1) 71 u := hu
        have hxd := Text.later hxu ((Below.refl W.heap.size W).drew)
        have hbnd : Boxed W.drew wr.heap.size 27 (.slice A n c) := hbn
        have hXd : W.drew.heap[Bx]? = some (.cells #[.int .i64 x.1.op, .int .i64 x.1.d, .int .i64 x.1.a, .int .i64 x.1.b, .int .i64 x.1.m] 26 (0, 0)) := hX
        have hBd := hB.drew
        have F := Lib.hid (hl2 _ (HL.out.below hBd) (tab_below HT.out hBd))
        have hsd : W.heap.size = W.drew.heap.size := rfl
        gi_wp2
        refine wpIn_region_any (by kernel_rfl) ?_
        rw [show ({ W with drawn := W.drawn + 1 } : World) = W.drew from rfl]
        generalize W.drew = Wd at *
        obtain ⟨k0, k1, k2, k3, k4⟩ := cells5 hXd
        have hcd := hvd.cell
        clear hl2
        have HXd := Lib.hid hXd
        clear hXd hX
        obtain ⟨i0, hi, hz0, hz1, hz2⟩ := info_parts Tryd.info5
        try simp only [Act.put, List.getElem_toArray, List.getElem_cons_succ, List.getElem_cons_zero, List.setIfInBounds_toArray, List.set_cons_zero, List.set_cons_succ]
        refine wpAnyIn_ready (rs := [0, 1]) (by kernel_rfl) (by simp) ?_
        refine AllReadyIn.cons rfl (fun K hK => ?_) (AllReadyIn.cons rfl (fun K hK => ?_) AllReadyIn.nil)
        · go_simp
          refine hK _ _ ?_
          clear hK K
          try simp only [Act.put, List.getElem_toArray, List.getElem_cons_succ, List.getElem_cons_zero, List.setIfInBounds_toArray, List.set_cons_zero, List.set_cons_succ]
          refine wpAnyIn_ready (rs := [1]) (by kernel_rfl) (by simp) ?_
          refine AllReadyIn.cons rfl (fun K hK => ?_) AllReadyIn.nil
          go_simp
          refine hK _ _ ?_
          clear hK K
          try simp only [Act.put, List.getElem_toArray, List.getElem_cons_succ, List.getElem_cons_zero, List.setIfInBounds_toArray, List.set_cons_zero, List.set_cons_succ]
          refine wpAnyIn_ready (rs := [2]) (by kernel_rfl) (by simp) ?_
          refine AllReadyIn.cons rfl (fun K hK => ?_) AllReadyIn.nil
          go_simp
          refine ⟨trivial, (CallsIn.inRound l (callsIn_wide.2 F.out)).mono ?_⟩
          rintro e w5 ⟨rfl, hb5⟩
          have hv5 := Go.Ev.Boxed.later hvd hb5
          have hc5 := hv5.cell
          have hx5 := Text.later hxd hb5
          have hn5 := Go.Ev.Boxed.later hbnd hb5
          have hs5 := hb5.size
          refine hK _ _ ?_
          clear hK K
          try simp only [Act.put, List.getElem_toArray, List.getElem_cons_succ, List.getElem_cons_zero, List.setIfInBounds_toArray, List.set_cons_zero, List.set_cons_succ]
          refine wpAnyIn_ready (rs := [3]) (by kernel_rfl) (by simp) ?_
          refine AllReadyIn.cons rfl (fun K hK => ?_) AllReadyIn.nil
          refine stepIn_append_T rfl (.tmp 39) (.tmp 41) 71 9 rfl w3.heap.size 5 i0 Tryd.underlying71 Tryd.underlying9 hi hz0 hz1 hz2 u (S ++ linesP pre) (lnOf x.1 ++ [10]) rfl rfl hx5 (by simp only [List.length_append, List.length_cons, List.length_nil]; omega) (by omega) ?_
          intro g1 cap1 N1 w6 hN1 hT1 hg1
          obtain ⟨z1, z2, z3, z4, z5⟩ := Text.appended hv5 (by decide) hx5 (by omega) (by omega) hT1 hg1
          have z6 := hn5.kept hg1 (fun e => row_ne hn5 (by decide) hx5 e.symm)
          have hc6 := z1.cell
          have hf6 := z1.frozen
          clear hN1
          refine hK _ _ ?_
          clear hK K
          try simp only [Act.put, List.getElem_toArray, List.getElem_cons_succ, List.getElem_cons_zero, List.setIfInBounds_toArray, List.set_cons_zero, List.set_cons_succ]
          refine wpAnyIn_ready (rs := [4]) (by kernel_rfl) (by simp) ?_
          refine AllReadyIn.cons rfl (fun K hK => ?_) AllReadyIn.nil
          go_simp
          refine hK _ _ ?_
          clear hK K
          try simp only [Act.put, List.getElem_toArray, List.getElem_cons_succ, List.getElem_cons_zero, List.setIfInBounds_toArray, List.set_cons_zero, List.set_cons_succ]
          refine wpAnyIn_done (by kernel_rfl) ?_ _
          have zz := z6.other (B' := w3.heap.size + 1) (by omega) (.slice (some ⟨g1, 0, none⟩) N1 cap1)
          exact ⟨((kd.trans (KeepsOthers.of_grownBy (grown_of_below' hb5) (fun j o ej _ => by cases ej))).trans z4).from _, ⟨bd.trans ((hb5.mono (by omega)).trans z5), fun y hy => zz.cell.trans (hbn0.symm.trans hy)⟩, ⟨⟨_, z2, by rw [linesP_snoc, ← List.append_assoc]; exact z3⟩, zz⟩, hBd.trans ((hb5.mono (by omega)).trans (z5.mono (by omega)))⟩
        · go_simp
          refine hK _ _ ?_
          clear hK K
          try simp only [Act.put, List.getElem_toArray, List.getElem_cons_succ, List.getElem_cons_zero, List.setIfInBounds_toArray, List.set_cons_zero, List.set_cons_succ]
          refine wpAnyIn_ready (rs := [0, 2]) (by kernel_rfl) (by simp) ?_
          refine AllReadyIn.cons rfl (fun K hK => ?_) (AllReadyIn.cons rfl (fun K hK => ?_) AllReadyIn.nil)
          · go_simp
            refine hK _ _ ?_
            clear hK K
            try simp only [Act.put, List.getElem_toArray, List.getElem_cons_succ, List.getElem_cons_zero, List.setIfInBounds_toArray, List.set_cons_zero, List.set_cons_succ]
            refine wpAnyIn_ready (rs := [2]) (by kernel_rfl) (by simp) ?_
            refine AllReadyIn.cons rfl (fun K hK => ?_) AllReadyIn.nil
            go_simp
            refine ⟨trivial, (CallsIn.inRound l (callsIn_wide.2 F.out)).mono ?_⟩
            rintro e w5 ⟨rfl, hb5⟩
            have hv5 := Go.Ev.Boxed.later hvd hb5
            have hc5 := hv5.cell
            have hx5 := Text.later hxd hb5
            have hn5 := Go.Ev.Boxed.later hbnd hb5
            have hs5 := hb5.size
            refine hK _ _ ?_
            clear hK K
            try simp only [Act.put, List.getElem_toArray, List.getElem_cons_succ, List.getElem_cons_zero, List.setIfInBounds_toArray, List.set_cons_zero, List.set_cons_succ]
            refine wpAnyIn_ready (rs := [3]) (by kernel_rfl) (by simp) ?_
            refine AllReadyIn.cons rfl (fun K hK => ?_) AllReadyIn.nil
            refine stepIn_append_T rfl (.tmp 39) (.tmp 41) 71 9 rfl w3.heap.size 5 i0 Tryd.underlying71 Tryd.underlying9 hi hz0 hz1 hz2 u (S ++ linesP pre) (lnOf x.1 ++ [10]) rfl rfl hx5 (by simp only [List.length_append, List.length_cons, List.length_nil]; omega) (by omega) ?_
            intro g1 cap1 N1 w6 hN1 hT1 hg1
            obtain ⟨z1, z2, z3, z4, z5⟩ := Text.appended hv5 (by decide) hx5 (by omega) (by omega) hT1 hg1
            have z6 := hn5.kept hg1 (fun e => row_ne hn5 (by decide) hx5 e.symm)
            have hc6 := z1.cell
            have hf6 := z1.frozen
            clear hN1
            refine hK _ _ ?_
            clear hK K
            try simp only [Act.put, List.getElem_toArray, List.getElem_cons_succ, List.getElem_cons_zero, List.setIfInBounds_toArray, List.set_cons_zero, List.set_cons_succ]
            refine wpAnyIn_ready (rs := [4]) (by kernel_rfl) (by simp) ?_
            refine AllReadyIn.cons rfl (fun K hK => ?_) AllReadyIn.nil
            go_simp
            refine hK _ _ ?_
            clear hK K
            try simp only [Act.put, List.getElem_toArray, List.getElem_cons_succ, List.getElem_cons_zero, List.setIfInBounds_toArray, List.set_cons_zero, List.set_cons_succ]
            refine wpAnyIn_done (by kernel_rfl) ?_ _
            have zz := z6.other (B' := w3.heap.size + 1) (by omega) (.slice (some ⟨g1, 0, none⟩) N1 cap1)
            exact ⟨((kd.trans (KeepsOthers.of_grownBy (grown_of_below' hb5) (fun j o ej _ => by cases ej))).trans z4).from _, ⟨bd.trans ((hb5.mono (by omega)).trans z5), fun y hy => zz.cell.trans (hbn0.symm.trans hy)⟩, ⟨⟨_, z2, by rw [linesP_snoc, ← List.append_assoc]; exact z3⟩, zz⟩, hBd.trans ((hb5.mono (by omega)).trans (z5.mono (by omega)))⟩
          · go_simp
            refine ⟨trivial, (CallsIn.inRound l (callsIn_wide.2 F.out)).mono ?_⟩
            rintro e w5 ⟨rfl, hb5⟩
            have hv5 := Go.Ev.Boxed.later hvd hb5
            have hc5 := hv5.cell
            have hx5 := Text.later hxd hb5
            have hn5 := Go.Ev.Boxed.later hbnd hb5
            have hs5 := hb5.size
            refine hK _ _ ?_
            clear hK K
            try simp only [Act.put, List.getElem_toArray, List.getElem_cons_succ, List.getElem_cons_zero, List.setIfInBounds_toArray, List.set_cons_zero, List.set_cons_succ]
            refine wpAnyIn_ready (rs := [0]) (by kernel_rfl) (by simp) ?_
            refine AllReadyIn.cons rfl (fun K hK => ?_) AllReadyIn.nil
            go_simp
            refine hK _ _ ?_
            clear hK K
            try simp only [Act.put, List.getElem_toArray, List.getElem_cons_succ, List.getElem_cons_zero, List.setIfInBounds_toArray, List.set_cons_zero, List.set_cons_succ]
            refine wpAnyIn_ready (rs := [3]) (by kernel_rfl) (by simp) ?_
            refine AllReadyIn.cons rfl (fun K hK => ?_) AllReadyIn.nil
            refine stepIn_append_T rfl (.tmp 39) (.tmp 41) 71 9 rfl w3.heap.size 5 i0 Tryd.underlying71 Tryd.underlying9 hi hz0 hz1 hz2 u (S ++ linesP pre) (lnOf x.1 ++ [10]) rfl rfl hx5 (by simp only [List.length_append, List.length_cons, List.length_nil]; omega) (by omega) ?_
            intro g1 cap1 N1 w6 hN1 hT1 hg1
            obtain ⟨z1, z2, z3, z4, z5⟩ := Text.appended hv5 (by decide) hx5 (by omega) (by omega) hT1 hg1
            have z6 := hn5.kept hg1 (fun e => row_ne hn5 (by decide) hx5 e.symm)
            have hc6 := z1.cell
            have hf6 := z1.frozen
            clear hN1
            refine hK _ _ ?_
            clear hK K
            try simp only [Act.put, List.getElem_toArray, List.getElem_cons_succ, List.getElem_cons_zero, List.setIfInBounds_toArray, List.set_cons_zero, List.set_cons_succ]
            refine wpAnyIn_ready (rs := [4]) (by kernel_rfl) (by simp) ?_
            refine AllReadyIn.cons rfl (fun K hK => ?_) AllReadyIn.nil
            go_simp
            refine hK _ _ ?_
            clear hK K
            try simp only [Act.put, List.getElem_toArray, List.getElem_cons_succ, List.getElem_cons_zero, List.setIfInBounds_toArray, List.set_cons_zero, List.set_cons_succ]
            refine wpAnyIn_done (by kernel_rfl) ?_ _
            have zz := z6.other (B' := w3.heap.size + 1) (by omega) (.slice (some ⟨g1, 0, none⟩) N1 cap1)
            exact ⟨((kd.trans (KeepsOthers.of_grownBy (grown_of_below' hb5) (fun j o ej _ => by cases ej))).trans z4).from _, ⟨bd.trans ((hb5.mono (by omega)).trans z5), fun y hy => zz.cell.trans (hbn0.symm.trans hy)⟩, ⟨⟨_, z2, by rw [linesP_snoc, ← List.append_assoc]; exact z3⟩, zz⟩, hBd.trans ((hb5.mono (by omega)).trans (z5.mono (by omega)))⟩
      case done =>
        rintro D xs W hD hS ⟨⟨⟨u, hu, hxu⟩, hbn⟩, hB⟩ hK
        have hcu := hu.cell
        have hbk := run_back_T (P := Tryd.prog) W w3.heap.size 71 9 5 u _ Tryd.underlying71 Tryd.underlying5 Tryd.underlying9 hxu
        rw [hS, HS.out] at hbk
        gi_wp2
        refine ⟨by simp, .inl ⟨_, _, rfl, run_takeDeferred hK, ?_⟩⟩
        refine ⟨.tuple #[.string ⟨⟨headT en ++ dataT ds ++ codeT ws (n + 1) 0⟩⟩, .int .i64 0], ?_, rfl, hB.trans (belowK_b (w := w) (Nat.le_refl _) W D _ _ (by omega) hK rfl rfl)⟩
        simp [results, Tryd.f18, go_sem]
      case stop =>
        rintro D c pre W hD hpre hs hK
        exact hs.elim
end Go.Proofs.YtbkojaiecgdodaaDoor
end
section
set_option linter.unusedVariables false
set_option linter.unusedSimpArgs false
namespace Go.Proofs.YtbkojaiecgdodaaDoor
open Go Go.Ev Go.RowKit
section
variable {A A2 : Option Addr} {n c n2 c2 : Nat} {en : Int} {ws ds : List Int} {w : World}
set_option maxRecDepth 100000 in
set_option maxHeartbeats 4000000 in
theorem prt_prog0 (hL : Laid w) (hO : Rows1 w A n c ws) (hn : n ≤ 300) {R : Int} (hR : chkV ws n2 en = R) (h0 : ¬ R = 0) :
    Calls Tryd.prog 18 #[.agg #[.slice A n c, .slice A2 n2 c2, .int .i64 en]] w fun e w' => e = .returned (.tuple #[.string ⟨⟨[]⟩⟩, .int .i64 R]) ∧ Below w.heap.size w w' := by
  have hB0 : Below w.heap.size w (w.alloc (.cells #[.slice A n c, .slice A2 n2 c2, .int .i64 en] 35)) := (Below.refl _ _).alloc (Nat.le_refl _) _
  have C := Lib.hid (chk_prog (A2 := A2) (n2 := n2) (c2 := c2) (en := en) (hL.below hB0) (hO.later hB0) (by omega))
  rw [hR] at C
  have hr : (R == 0) = false := by simpa using h0
  clear hL hO hR h0
  go_enter Tryd.func18, Tryd.ntmps18
  go_wp2_with fail
  refine C.out.mono ?_
  rintro e w2 ⟨rfl, hb2⟩
  have HB := Lib.hid (hB0.trans (hb2.mono (by simp)))
  clear hb2 hB0
  go_wp2_with fail
  refine bodyPost_ret (v := .tuple #[.string ⟨⟨[]⟩⟩, .int .i64 R]) (by simp [results, Tryd.results18, go_sem]) rfl ⟨rfl, HB.out⟩
theorem prt_prog (hL : Laid w) (hT : Tab w) (hO : Rows1 w A n c ws) (hD : RowsI w A2 n2 c2 ds) (hn : n ≤ 300) (hn2 : n2 ≤ 300) :
    Calls Tryd.prog 18 #[.agg #[.slice A n c, .slice A2 n2 c2, .int .i64 en]] w fun e w' => e = .returned (prtV ws ds en) ∧ Below w.heap.size w w' := by
  unfold prtV
  rw [hD.len, hO.len]
  by_cases h0 : chkV ws n2 en = 0
  · rw [if_pos h0, h0]; exact prt_prog1 hL hT hO hD hn hn2 h0
  · rw [if_neg h0]; exact prt_prog0 hL hO hn rfl h0
theorem awake_calls' (hL : Laid w) : Calls Tryd.prog 8 #[] w (Yes w) := awake_calls hL
set_option maxRecDepth 100000 in
set_option maxHeartbeats 4000000 in
theorem law_long (hL : Laid w) (h : 300 < n ∨ ¬ 300 < n ∧ 300 < n2) : Calls Tryd.prog 5 #[.agg #[.slice A n c, .slice A2 n2 c2, .int .i64 en]] w (Yes w) := by
  have hB0 : Below w.heap.size w (w.alloc (.cells #[.slice A n c, .slice A2 n2 c2, .int .i64 en] 35)) := (Below.refl _ _).alloc (Nat.le_refl _) _
  have HA := Lib.hid (awake_calls (hL.below hB0))
  clear hL
  rcases h with h | ⟨h, h2⟩
  · have h' : (300 : Int) < n := by omega
    go_enter Tryd.func5, Tryd.ntmps5
    go_wp2_with fail
    refine HA.out.mono ?_
    rintro e w4 ⟨rfl, hb4⟩
    have HB4 := Lib.hid (hB0.trans (hb4.mono (by simp)))
    clear hb4 hB0
    go_wp2_with fail
    refine bodyPost_ret (v := .bool true) (by simp [results, Tryd.results5, go_sem]) rfl ⟨rfl, HB4.out⟩
  · have h' : ¬ (300 : Int) < n := by omega
    have h2' : (300 : Int) < n2 := by omega
    go_enter Tryd.func5, Tryd.ntmps5
    go_wp2_with fail
    refine HA.out.mono ?_
    rintro e w4 ⟨rfl, hb4⟩
    have HB4 := Lib.hid (hB0.trans (hb4.mono (by simp)))
    clear hb4 hB0
    go_wp2_with fail
    refine bodyPost_ret (v := .bool true) (by simp [results, Tryd.results5, go_sem]) rfl ⟨rfl, HB4.out⟩
set_option maxRecDepth 100000 in
set_option maxHeartbeats 4000000 in
theorem law_prints (hL : Laid w) (hT : Tab w) (hO : Rows1 w A n c ws) (hD : RowsI w A2 n2 c2 ds) (hn : n ≤ 300) (hn2 : n2 ≤ 300) : Calls Tryd.prog 5 #[.agg #[.slice A n c, .slice A2 n2 c2, .int .i64 en]] w (Yes w) := by
  have c18 := fun W (h : Below w.heap.size w W) => prt_prog (en := en) (hL.below h) (tab_below hT h) (hO.later h) (hD.later h) hn hn2
  have c19 := fun W (h : Below w.heap.size w W) => prt_ref (en := en) (hL.below h) (hO.later h) (hD.later h) hn hn2
  obtain ⟨X, R, hp⟩ : ∃ X R, prtV ws ds en = .tuple #[.string X, .int .i64 R] := ⟨_, _, rfl⟩
  rw [hp] at c18 c19
  have h1 : ¬ (300 : Int) < n := by omega
  have h2 : ¬ (300 : Int) < n2 := by omega
  have H18 := Lib.hid c18
  have H19 := Lib.hid c19
  have HL := Lib.hid hL
  clear c18 c19 hL hT hO hD hp
  have hB0 : Below w.heap.size w (w.alloc (.cells #[.slice A n c, .slice A2 n2 c2, .int .i64 en] 35)) := (Below.refl _ _).alloc (Nat.le_refl _) _
  obtain ⟨b0, b1, b2⟩ := box3_cells (w := w) (a := .slice A n c) (b := .slice A2 n2 c2) (c := .int .i64 en) (t := 35)
  have hsz : w.heap.size < (w.alloc (.cells #[.slice A n c, .slice A2 n2 c2, .int .i64 en] 35)).heap.size := by simp
  go_enter Tryd.func5, Tryd.ntmps5
  go_wp2_with fail
  generalize hW : w.alloc (.cells #[.slice A n c, .slice A2 n2 c2, .int .i64 en] 35) = W0 at *
  refine (H18.out _ hB0).mono ?_
  rintro e w2 ⟨rfl, hb2⟩
  have d0 := (hb2.cell (p := ⟨w.heap.size, 0, none⟩) hsz).trans b0
  have d1 := (hb2.cell (p := ⟨w.heap.size, 1, none⟩) hsz).trans b1
  have d2 := (hb2.cell (p := ⟨w.heap.size, 2, none⟩) hsz).trans b2
  have HB2 := Lib.hid (hB0.trans (hb2.mono (by omega)))
  clear hb2 hB0 b0 b1 b2 hW hsz
  clear W0
  go_wp2_with fail
  refine (H19.out _ HB2.out).mono ?_
  rintro e w3 ⟨rfl, hb3⟩
  have HB3 := Lib.hid (HB2.out.trans (hb3.mono HB2.out.size))
  clear hb3 d0 d1 d2 HB2
  clear w2
  go_wp2_with fail
  refine (awake_calls (HL.out.below HB3.out)).mono ?_
  rintro e w4 ⟨rfl, hb4⟩
  have HB4 := Lib.hid (HB3.out.trans (hb4.mono HB3.out.size))
  clear hb4 HB3
  go_wp2_with fail
  refine bodyPost_ret (v := .bool true) (by simp [results, Tryd.results5, go_sem]) rfl ⟨rfl, HB4.out⟩
theorem prints_ok (hL : Laid w) (hT : Tab w) (hO : Rows1 w A n c ws) (hD : RowsI w A2 n2 c2 ds) : Calls Tryd.prog 5 #[.agg #[.slice A n c, .slice A2 n2 c2, .int .i64 en]] w (Yes w) := by
  by_cases hn : 300 < n
  · exact law_long hL (Or.inl hn)
  · by_cases hn2 : 300 < n2
    · exact law_long hL (Or.inr ⟨hn, hn2⟩)
    · exact law_prints hL hT hO hD (by omega) (by omega)
end
end Go.Proofs.YtbkojaiecgdodaaDoor
end
